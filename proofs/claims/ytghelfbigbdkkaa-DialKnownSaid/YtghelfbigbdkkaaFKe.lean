import Derived.Deep.Cut
import Derived.Test.YtghelfbigbdkkaaFKd
/- The law DialKnown: its second loop. -/
namespace Go.Proofs.Ytghelfbigbdkkaa
open Go.RowKit
set_option maxRecDepth 1000000 in
set_option maxHeartbeats 8000000 in
set_option linter.unusedSimpArgs false in
theorem kn_tail9 (c0 c1 c2 c3 c4 c5 c6 c7 c8 c9 c10 c11 c12 c13 c14 c15 c16 c17 c18 c19 c20 c21 c22 c23 c24 c25 c26 c27 c28 c29 c30 c31 c32 c33 c34 c35 c36 c37 c38 c39 c40 c41 c42 c43 c44 c45 c46 c47 c48 c49 c50 c51 c52 c53 c54 c55 c56 c57 c58 c59 c60 c61 c62 c63 c64 c65 c66 c67 c68 c69 c70 c71 c72 c73 c74 c75 c76 c77 c78 c79 c80 c81 c82 c83 c84 c85 c86 c87 c88 c89 c90 c91 c92 c93 c94 c95 c96 c97 c98 c99 c100 c101 c102 c103 c104 c105 c106 c107 c108 c109 c110 c111 c112 c113 c114 c115 c116 c117 c118 c119 c120 c121 c122 c123 c124 c125 c126 c127 c128 c129 c130 c131 c132 c133 c134 c135 c136 c137 c138 c139 c140 c141 c142 c143 c144 c145 c146 c147 c148 c149 c150 c151 c152 c153 c154 c155 c156 c157 c158 c159 c160 c161 c162 c163 c164 c165 c166 c167 c168 c169 c170 c171 c172 c173 c174 c175 c176 c177 c178 c179 c180 c181 c182 c183 c184 c185 c186 c187 c188 c189 c190 c191 c192 c193 c194 c195 c196 c197 c198 c199 c200 c201 c202 c203 c204 c205 c206 c207 c208 c209 c210 c211 c212 c213 c214 c215 c216 c217 c218 c219 c220 c221 c222 c223 c224 c225 : Value) {w wr : World} (U9 : Up w wr) :
    Code.wp Try.prog (Kn.rt 9 Kn.body) (bodyPost Try.prog Try.f3 fun e w' => e = .returned (.bool true) ∧ Up w w') ⟨#[c0, c1, c2, c3, c4, c5, c6, c7, c8, c9, c10, c11, c12, c13, c14, c15, c16, c17, c18, c19, c20, c21, c22, c23, c24, c25, c26, c27, c28, c29, c30, c31, c32, c33, c34, c35, c36, c37, c38, c39, c40, c41, c42, c43, c44, c45, c46, c47, c48, c49, c50, c51, c52, c53, c54, c55, c56, c57, c58, c59, c60, c61, c62, c63, c64, c65, c66, c67, c68, c69, c70, c71, c72, c73, c74, c75, c76, c77, c78, c79, c80, c81, c82, c83, c84, c85, c86, c87, c88, c89, c90, c91, c92, c93, c94, c95, c96, c97, c98, c99, c100, c101, c102, c103, c104, c105, c106, c107, c108, c109, c110, c111, c112, c113, c114, c115, c116, c117, c118, c119, c120, c121, c122, c123, c124, c125, c126, c127, c128, c129, c130, c131, c132, c133, c134, c135, c136, c137, c138, c139, c140, c141, c142, c143, c144, c145, c146, c147, c148, c149, c150, c151, c152, c153, c154, c155, c156, c157, c158, c159, c160, c161, c162, c163, c164, c165, c166, c167, c168, c169, c170, c171, c172, c173, c174, c175, c176, c177, c178, c179, c180, c181, c182, c183, c184, c185, c186, c187, c188, c189, c190, c191, c192, c193, c194, c195, c196, c197, c198, c199, c200, c201, c202, c203, c204, c205, c206, c207, c208, c209, c210, c211, c212, c213, c214, c215, c216, c217, c218, c219, c220, c221, c222, c223, c224, c225, undef, undef, undef, undef, undef, undef, undef, undef, undef, undef, undef, undef, undef, undef, undef, undef, undef, undef, undef, undef, undef, undef, undef, undef, undef, undef, undef, undef, undef, undef, undef, undef, undef, undef, undef, undef, undef, undef, undef, undef, undef, undef, undef, undef, undef, undef, undef, undef, undef, undef, undef, undef, undef, undef, undef, undef, undef, undef, undef, undef, undef, undef, undef, undef, undef, undef, undef, undef, undef, undef, undef, undef, undef, undef, undef, undef, undef, undef, undef, undef, undef, undef, undef, undef, undef, undef, undef, undef, undef, undef, undef, undef, undef, undef, undef, undef, undef, undef, undef, undef, undef, undef, undef, undef, undef, undef, undef, undef, undef, undef, undef, undef, undef, undef, undef, undef, undef, undef, undef, undef, undef, undef, undef, undef, undef, undef, undef, undef, undef, undef, undef, undef, undef, undef, undef, undef, undef, undef, undef, undef, undef, undef, undef, undef, undef, undef, undef, undef, undef, undef, undef, undef, undef, undef, undef, undef, undef, undef, undef, undef, undef, undef, undef, undef, undef, undef, undef, undef, undef, undef, undef, undef, undef, undef, undef, undef, undef, undef, undef, undef, undef, undef, undef, undef, undef, undef, undef, undef, undef, undef, undef, undef, undef, undef, undef, undef, undef, undef, undef, undef, undef, undef, undef, undef, undef, undef, undef, undef, undef, undef, undef, undef, undef, undef, undef, undef, undef, undef, undef, undef, undef, undef, undef, undef, undef, undef, undef, undef, undef, undef, undef, undef, undef, undef, undef, undef, undef, undef, undef, undef, undef, undef, undef, undef, undef, undef, undef, undef, undef, undef, undef, undef, undef, undef, undef, undef, undef, undef, undef, undef, undef, undef, undef, undef, undef, undef, undef, undef, undef, undef, undef, undef, undef, undef, undef, undef, undef, undef, undef, undef, undef, undef, undef, undef, undef, undef, undef, undef, undef, undef, undef, undef, undef, undef, undef, undef, undef, undef, undef, undef, undef, undef, undef, undef, undef, undef, undef, undef], []⟩ wr := by
  conv => arg 2; whnf
  go_wp2_with fail
  obtain ⟨p, hp⟩ : ∃ p, wr.heap.size = p := ⟨_, rfl⟩
  obtain ⟨X, hX⟩ : ∃ X, (((((wr.alloc (.cells #[.int .i64 0, .int .i64 0] 52)).alloc (.cells #[.int .i64 241, .int .i64 0] 52)).alloc (.cells #[.int .i64 5, .int .i64 0, .int .i64 5, .int .i64 0] 52)).alloc (.cells #[.int .i64 5, .int .i64 1441] 52)).alloc (.cells #[.int .i64 1, .int .i64 0, .int .i64 2, .int .i64 0, .int .i64 3, .int .i64 0, .int .i64 4, .int .i64 0, .int .i64 5, .int .i64 0, .int .i64 6, .int .i64 0, .int .i64 7, .int .i64 0] 52)).alloc (.cells #[.int .i64 1441, .slice none 0 0, .int .i64 (-1441), .slice none 0 0, .int .i64 0, .slice (some ⟨wr.heap.size, 0, none⟩) 1 1, .int .i64 0, .slice (some ⟨wr.heap.size + 1, 0, none⟩) 1 1, .int .i64 0, .slice (some ⟨wr.heap.size + 1 + 1, 0, none⟩) 2 2, .int .i64 0, .slice (some ⟨wr.heap.size + 1 + 1 + 1, 0, none⟩) 1 1, .int .i64 0, .slice (some ⟨wr.heap.size + 1 + 1 + 1 + 1, 0, none⟩) 7 7] 44) = X := ⟨_, rfl⟩
  rw [hX]
  rw [hp] at hX ⊢
  have k0 : mblk X (p) = some (.cells #[.int .i64 0, .int .i64 0] 52 (0, 0)) := by rw [← hX]; exact (blk_keep _ (blk_keep _ (blk_keep _ (blk_keep _ (blk_keep _ (blk_new _ _ _ (by simp [hp])))))))
  have k1 : mblk X (p + 1) = some (.cells #[.int .i64 241, .int .i64 0] 52 (0, 0)) := by rw [← hX]; exact (blk_keep _ (blk_keep _ (blk_keep _ (blk_keep _ (blk_new _ _ _ (by simp [hp]))))))
  have k2 : mblk X (p + 1 + 1) = some (.cells #[.int .i64 5, .int .i64 0, .int .i64 5, .int .i64 0] 52 (0, 0)) := by rw [← hX]; exact (blk_keep _ (blk_keep _ (blk_keep _ (blk_new _ _ _ (by simp [hp])))))
  have k3 : mblk X (p + 1 + 1 + 1) = some (.cells #[.int .i64 5, .int .i64 1441] 52 (0, 0)) := by rw [← hX]; exact (blk_keep _ (blk_keep _ (blk_new _ _ _ (by simp [hp]))))
  have k4 : mblk X (p + 1 + 1 + 1 + 1) = some (.cells #[.int .i64 1, .int .i64 0, .int .i64 2, .int .i64 0, .int .i64 3, .int .i64 0, .int .i64 4, .int .i64 0, .int .i64 5, .int .i64 0, .int .i64 6, .int .i64 0, .int .i64 7, .int .i64 0] 52 (0, 0)) := by rw [← hX]; exact (blk_keep _ (blk_new _ _ _ (by simp [hp])))
  have kt : mblk X (p + 1 + 1 + 1 + 1 + 1) = some (.cells #[.int .i64 1441, .slice none 0 0, .int .i64 (-1441), .slice none 0 0, .int .i64 0, .slice (some ⟨p, 0, none⟩) 1 1, .int .i64 0, .slice (some ⟨p + 1, 0, none⟩) 1 1, .int .i64 0, .slice (some ⟨p + 1 + 1, 0, none⟩) 2 2, .int .i64 0, .slice (some ⟨p + 1 + 1 + 1, 0, none⟩) 1 1, .int .i64 0, .slice (some ⟨p + 1 + 1 + 1 + 1, 0, none⟩) 7 7] 44 (0, 0)) := by rw [← hX]; exact blk_new _ _ _ (by simp [hp])
  have VX : Up wr X := by rw [← hX]; exact ((((((Up.refl _).alloc _).alloc _).alloc _).alloc _).alloc _).alloc _
  have HT := Lib.hid (Kn.tows kt k0 k1 k2 k3 k4)
  have hgl := blk_lt kt
  have U10 := U9.trans VX
  obtain ⟨g2, hg2⟩ : ∃ g2, p + 1 + 1 + 1 + 1 + 1 = g2 := ⟨_, rfl⟩
  rw [hg2] at HT hgl ⊢
  clear hg2 hX hp k0 k1 k2 k3 k4 kt VX U9
  go_loopw [22] (fun iv wr => ∃ j : Nat, j ≤ 7 ∧ iv = .int .i64 j ∧ Up X wr) (fun iv _ => 7 - (intOf iv).toNat)
  case atStart => exact ⟨0, by omega, rfl, Up.refl _⟩
  case round =>
    obtain ⟨j, hj, rfl, V⟩ := hrel
    by_cases hlt : j < 7
    · obtain ⟨ah, a, n, c, M, q0, q1, B, hE⟩ := HT.out j hlt
      have HQ := Lib.hid (fun w' (u : Up X w') => show w'.cell? ⟨g2, j * 2, none⟩ = some (.int .i64 ah) ∧ w'.cell? ⟨g2, j * 2 + 1, none⟩ = some (.slice a n c) from ⟨(u.facts.1 g2 _ hgl).trans q0, (u.facts.1 g2 _ hgl).trans q1⟩)
      have HBB := Lib.hid B
      have HE := Lib.hid hE
      have HJ := Lib.hid (show j + 1 ≤ 7 from hlt)
      clear q0 q1 B hE HT
      obtain ⟨q0, q1⟩ := HQ.out _ V
      go_wp2_with fail
      clear q0 q1
      apply Kn.merge2 (fun w' (_ _ : Nat) => Up X w')
      · intro HKey
        refine wp_region_held_drew (S := fun w' => Up X w' ∧ w'.cell? ⟨g2, j * 2, none⟩ = some (.int .i64 ah) ∧ w'.cell? ⟨g2, j * 2 + 1, none⟩ = some (.slice a n c)) (by as_aux_lemma => kernel_rfl) ⟨V.drew, HQ.out _ V.drew⟩ (fun hHeld => ?_)
        refine takeH (i := 1) (d := (some 259)) (v := ?v1) rfl rfl (by as_aux_lemma => kernel_rfl) (by as_aux_lemma => kernel_rfl) (by as_aux_lemma => kernel_rfl) (fun _ _ _ h => h) (by rfl) ?hy1 (by assumption) ?_
        case hy1 => ((intro w hSw; (try dsimp only at hSw); (try go_split_ands); go_simp); try with_reducible rfl)
        simp only [Act.put, List.setIfInBounds_toArray]; dsimp only [List.set_cons_zero, List.set_cons_succ]
        refine takeH (i := 2) (d := (some 260)) (v := ?v2) rfl rfl (by as_aux_lemma => kernel_rfl) (by as_aux_lemma => kernel_rfl) (by as_aux_lemma => kernel_rfl) (fun _ _ _ h => h) (by rfl) ?hy2 (by assumption) ?_
        case hy2 => ((intro w hSw; (try dsimp only at hSw); (try go_split_ands); go_simp); try with_reducible rfl)
        simp only [Act.put, List.setIfInBounds_toArray]; dsimp only [List.set_cons_zero, List.set_cons_succ]
        refine takeH (i := 3) (d := (some 261)) (v := ?v3) rfl rfl (by as_aux_lemma => kernel_rfl) (by as_aux_lemma => kernel_rfl) (by as_aux_lemma => kernel_rfl) (fun _ _ _ h => h) (by rfl) ?hy3 (by assumption) ?_
        case hy3 => ((intro w hSw; (try dsimp only at hSw); (try go_split_ands); go_simp); try with_reducible rfl)
        simp only [Act.put, List.setIfInBounds_toArray]; dsimp only [List.set_cons_zero, List.set_cons_succ]
        refine takeH (i := 4) (d := (some 262)) (v := ?v4) rfl rfl (by as_aux_lemma => kernel_rfl) (by as_aux_lemma => kernel_rfl) (by as_aux_lemma => kernel_rfl) (fun _ _ _ h => h) (by rfl) ?hy4 (by assumption) ?_
        case hy4 => ((intro w hSw; (try dsimp only at hSw); (try go_split_ands); go_simp); try with_reducible rfl)
        simp only [Act.put, List.setIfInBounds_toArray]; dsimp only [List.set_cons_zero, List.set_cons_succ]
        refine wpAnyH_ready (rs := [0, 9]) (by as_aux_lemma => kernel_rfl) (by simp) ?_
        refine AllReadyH.cons rfl (fun K hK => ?_) (AllReadyH.cons rfl (fun K hK => ?_) AllReadyH.nil)
        · go_simp
          refine (l_week_any _ _ _).mono ?_
          rintro e y1 ⟨b1, rfl, v1, AW⟩
          go_wp2_with fail
          refine hK.out _ _ ⟨hHeld.1.trans v1, HQ.out _ (hHeld.1.trans v1)⟩ (fun hHeld => ?_)
          clear hK K v1
          refine wpAnyH_ready (rs := [5, 9]) (by as_aux_lemma => kernel_rfl) (by simp) ?_
          refine AllReadyH.cons rfl (fun K hK => ?_) (AllReadyH.cons rfl (fun K hK => ?_) AllReadyH.nil)
          · go_simp
            refine (Kn.loc AW (HBB.out.up hHeld.1) HE.out (by omega)).mono ?_
            rintro e y2 ⟨rfl, v2⟩
            go_wp2_with fail
            refine hK.out _ _ ⟨hHeld.1.trans v2, HQ.out _ (hHeld.1.trans v2)⟩ (fun hHeld => ?_)
            clear hK K v2
            refine takeH (i := 6) (d := (some 257)) (v := ?v5) rfl rfl (by as_aux_lemma => kernel_rfl) (by as_aux_lemma => kernel_rfl) (by as_aux_lemma => kernel_rfl) (fun _ _ _ h => h) (by rfl) ?hy5 (by assumption) ?_
            case hy5 => ((intro w hSw; (try dsimp only at hSw); (try go_split_ands); go_simp); try with_reducible rfl)
            simp only [Act.put, List.setIfInBounds_toArray]; dsimp only [List.set_cons_zero, List.set_cons_succ]
            refine takeH (i := 7) (d := (some 264)) (v := ?v6) rfl rfl (by as_aux_lemma => kernel_rfl) (by as_aux_lemma => kernel_rfl) (by as_aux_lemma => kernel_rfl) (fun _ _ _ h => h) (by rfl) ?hy6 (by assumption) ?_
            case hy6 => ((intro w hSw; (try dsimp only at hSw); (try go_split_ands); go_simp); try with_reducible rfl)
            simp only [Act.put, List.setIfInBounds_toArray]; dsimp only [List.set_cons_zero, List.set_cons_succ]
            refine takeH (i := 8) (d := (some 265)) (v := ?v7) rfl rfl (by as_aux_lemma => kernel_rfl) (by as_aux_lemma => kernel_rfl) (by as_aux_lemma => kernel_rfl) (fun _ _ _ h => h) (by rfl) ?hy7 (by assumption) ?_
            case hy7 => ((intro w hSw; (try dsimp only at hSw); (try go_split_ands); go_simp); try with_reducible rfl)
            simp only [Act.put, List.setIfInBounds_toArray]; dsimp only [List.set_cons_zero, List.set_cons_succ]
            have S5 := hHeld.1
            refine wpAnyH_ready (rs := [9]) (by as_aux_lemma => kernel_rfl) (by simp) ?_
            refine AllReadyH.cons rfl (fun K hK => ?_) AllReadyH.nil
            go_simp
            obtain ⟨W6, hW6⟩ : ∃ W6, y2.alloc (.cells #[.int .i64 0, .int .i64 0, .int .i64 0, .int .i64 0] 34) = W6 := ⟨_, rfl⟩
            obtain ⟨b, hb⟩ : ∃ b, y2.heap.size = b := ⟨_, rfl⟩
            have z6 : mblk W6 b = some (.cells #[.int .i64 0, .int .i64 0, .int .i64 0, .int .i64 0] 34 (0, 0)) := by rw [← hW6]; exact blk_new _ _ _ hb.symm
            have V6 : Up y2 W6 := by rw [← hW6]; exact (Up.refl _).alloc _
            rw [hb, hW6]
            refine hK.out _ _ ⟨S5.trans V6, HQ.out _ (S5.trans V6)⟩ (fun hHeld => ?_)
            clear hK K hW6
            have f6 := cellB z6
            have y6 := frozB z6
            refine wpAnyH_ready (rs := [10]) (by as_aux_lemma => kernel_rfl) (by simp) ?_
            refine AllReadyH.cons rfl (fun K hK => ?_) AllReadyH.nil
            go_simp
            obtain ⟨W7, hW7⟩ : ∃ W7, ((((W6.setCell ⟨b, 0, none⟩ (.int .i64 0)).setCell ⟨b, 1, none⟩ (.int .i64 0)).setCell ⟨b, 2, none⟩ (.int .i64 0)).setCell ⟨b, 3, none⟩ (.int .i64 0)) = W7 := ⟨_, rfl⟩
            have V7 : Up y2 W7 := by rw [← hW7]; exact V6.set4 (by omega) _ _ _ _
            rw [hW7]
            refine hK.out _ _ ⟨S5.trans V7, HQ.out _ (S5.trans V7)⟩ (fun hHeld => ?_)
            clear hK K hW7 V7 z6 S5 V6 f6 y6
            refine takeH (i := 11) (d := (some 24)) (v := ?v10) rfl rfl (by as_aux_lemma => kernel_rfl) (by as_aux_lemma => kernel_rfl) (by as_aux_lemma => kernel_rfl) (fun _ _ _ h => h) (by rfl) ?hy10 (by assumption) ?_
            case hy10 => ((intro w hSw; (try dsimp only at hSw); (try go_split_ands); go_simp); try with_reducible rfl)
            simp only [Act.put, List.setIfInBounds_toArray]; dsimp only [List.set_cons_zero, List.set_cons_succ]
            refine wpAnyH_done (by as_aux_lemma => kernel_rfl) ?_ _
            exact HKey.out _ b b1 hHeld.1
          · go_simp
            have S5 := hHeld.1
            obtain ⟨W6, hW6⟩ : ∃ W6, y1.alloc (.cells #[.int .i64 0, .int .i64 0, .int .i64 0, .int .i64 0] 34) = W6 := ⟨_, rfl⟩
            obtain ⟨b, hb⟩ : ∃ b, y1.heap.size = b := ⟨_, rfl⟩
            have z6 : mblk W6 b = some (.cells #[.int .i64 0, .int .i64 0, .int .i64 0, .int .i64 0] 34 (0, 0)) := by rw [← hW6]; exact blk_new _ _ _ hb.symm
            have V6 : Up y1 W6 := by rw [← hW6]; exact (Up.refl _).alloc _
            rw [hb, hW6]
            refine hK.out _ _ ⟨S5.trans V6, HQ.out _ (S5.trans V6)⟩ (fun hHeld => ?_)
            clear hK K hW6
            refine wpAnyH_ready (rs := [5]) (by as_aux_lemma => kernel_rfl) (by simp) ?_
            refine AllReadyH.cons rfl (fun K hK => ?_) AllReadyH.nil
            go_simp
            refine (Kn.loc (AW.up V6) (HBB.out.up hHeld.1) HE.out (by omega)).mono ?_
            rintro e y2 ⟨rfl, v2⟩
            go_wp2_with fail
            refine hK.out _ _ ⟨hHeld.1.trans v2, HQ.out _ (hHeld.1.trans v2)⟩ (fun hHeld => ?_)
            clear hK K
            refine takeH (i := 6) (d := (some 257)) (v := ?v12) rfl rfl (by as_aux_lemma => kernel_rfl) (by as_aux_lemma => kernel_rfl) (by as_aux_lemma => kernel_rfl) (fun _ _ _ h => h) (by rfl) ?hy12 (by assumption) ?_
            case hy12 => ((intro w hSw; (try dsimp only at hSw); (try go_split_ands); go_simp); try with_reducible rfl)
            simp only [Act.put, List.setIfInBounds_toArray]; dsimp only [List.set_cons_zero, List.set_cons_succ]
            refine takeH (i := 7) (d := (some 264)) (v := ?v13) rfl rfl (by as_aux_lemma => kernel_rfl) (by as_aux_lemma => kernel_rfl) (by as_aux_lemma => kernel_rfl) (fun _ _ _ h => h) (by rfl) ?hy13 (by assumption) ?_
            case hy13 => ((intro w hSw; (try dsimp only at hSw); (try go_split_ands); go_simp); try with_reducible rfl)
            simp only [Act.put, List.setIfInBounds_toArray]; dsimp only [List.set_cons_zero, List.set_cons_succ]
            refine takeH (i := 8) (d := (some 265)) (v := ?v14) rfl rfl (by as_aux_lemma => kernel_rfl) (by as_aux_lemma => kernel_rfl) (by as_aux_lemma => kernel_rfl) (fun _ _ _ h => h) (by rfl) ?hy14 (by assumption) ?_
            case hy14 => ((intro w hSw; (try dsimp only at hSw); (try go_split_ands); go_simp); try with_reducible rfl)
            simp only [Act.put, List.setIfInBounds_toArray]; dsimp only [List.set_cons_zero, List.set_cons_succ]
            have z8 := v2.blk z6
            have f6 := cellB z8
            have y6 := frozB z8
            have V8 := V6.trans v2
            clear z6 v2 V6
            refine wpAnyH_ready (rs := [10]) (by as_aux_lemma => kernel_rfl) (by simp) ?_
            refine AllReadyH.cons rfl (fun K hK => ?_) AllReadyH.nil
            go_simp
            obtain ⟨W7, hW7⟩ : ∃ W7, ((((y2.setCell ⟨b, 0, none⟩ (.int .i64 0)).setCell ⟨b, 1, none⟩ (.int .i64 0)).setCell ⟨b, 2, none⟩ (.int .i64 0)).setCell ⟨b, 3, none⟩ (.int .i64 0)) = W7 := ⟨_, rfl⟩
            have V7 : Up y1 W7 := by rw [← hW7]; exact V8.set4 (by omega) _ _ _ _
            rw [hW7]
            refine hK.out _ _ ⟨S5.trans V7, HQ.out _ (S5.trans V7)⟩ (fun hHeld => ?_)
            clear hK K hW7 V7 z8 S5 V8 f6 y6
            refine takeH (i := 11) (d := (some 24)) (v := ?v16) rfl rfl (by as_aux_lemma => kernel_rfl) (by as_aux_lemma => kernel_rfl) (by as_aux_lemma => kernel_rfl) (fun _ _ _ h => h) (by rfl) ?hy16 (by assumption) ?_
            case hy16 => ((intro w hSw; (try dsimp only at hSw); (try go_split_ands); go_simp); try with_reducible rfl)
            simp only [Act.put, List.setIfInBounds_toArray]; dsimp only [List.set_cons_zero, List.set_cons_succ]
            refine wpAnyH_done (by as_aux_lemma => kernel_rfl) ?_ _
            exact HKey.out _ b b1 hHeld.1
        · go_simp
          have S5 := hHeld.1
          obtain ⟨W6, hW6⟩ : ∃ W6, (wr.alloc (.cells #[.int .i64 0, .int .i64 0, .int .i64 0, .int .i64 0] 34)).drew = W6 := ⟨_, rfl⟩
          obtain ⟨b, hb⟩ : ∃ b, wr.heap.size = b := ⟨_, rfl⟩
          have z6 : mblk W6 b = some (.cells #[.int .i64 0, .int .i64 0, .int .i64 0, .int .i64 0] 34 (0, 0)) := by rw [← hW6, blk_drew]; exact blk_new _ _ _ hb.symm
          have V6 : Up wr.drew W6 := by rw [← hW6]; exact (Up.refl wr.drew).alloc (.cells #[.int .i64 0, .int .i64 0, .int .i64 0, .int .i64 0] 34)
          rw [hb, hW6]
          have hbd : wr.drew.heap.size = b := hb
          refine hK.out _ _ ⟨S5.trans V6, HQ.out _ (S5.trans V6)⟩ (fun hHeld => ?_)
          clear hK K hW6
          refine wpAnyH_ready (rs := [0]) (by as_aux_lemma => kernel_rfl) (by simp) ?_
          refine AllReadyH.cons rfl (fun K hK => ?_) AllReadyH.nil
          go_simp
          refine (l_week_any _ _ _).mono ?_
          rintro e y1 ⟨b1, rfl, v1, AW⟩
          go_wp2_with fail
          refine hK.out _ _ ⟨hHeld.1.trans v1, HQ.out _ (hHeld.1.trans v1)⟩ (fun hHeld => ?_)
          clear hK K
          refine wpAnyH_ready (rs := [5]) (by as_aux_lemma => kernel_rfl) (by simp) ?_
          refine AllReadyH.cons rfl (fun K hK => ?_) AllReadyH.nil
          go_simp
          refine (Kn.loc AW (HBB.out.up hHeld.1) HE.out (by omega)).mono ?_
          rintro e y2 ⟨rfl, v2⟩
          go_wp2_with fail
          refine hK.out _ _ ⟨hHeld.1.trans v2, HQ.out _ (hHeld.1.trans v2)⟩ (fun hHeld => ?_)
          clear hK K
          refine takeH (i := 6) (d := (some 257)) (v := ?v19) rfl rfl (by as_aux_lemma => kernel_rfl) (by as_aux_lemma => kernel_rfl) (by as_aux_lemma => kernel_rfl) (fun _ _ _ h => h) (by rfl) ?hy19 (by assumption) ?_
          case hy19 => ((intro w hSw; (try dsimp only at hSw); (try go_split_ands); go_simp); try with_reducible rfl)
          simp only [Act.put, List.setIfInBounds_toArray]; dsimp only [List.set_cons_zero, List.set_cons_succ]
          refine takeH (i := 7) (d := (some 264)) (v := ?v20) rfl rfl (by as_aux_lemma => kernel_rfl) (by as_aux_lemma => kernel_rfl) (by as_aux_lemma => kernel_rfl) (fun _ _ _ h => h) (by rfl) ?hy20 (by assumption) ?_
          case hy20 => ((intro w hSw; (try dsimp only at hSw); (try go_split_ands); go_simp); try with_reducible rfl)
          simp only [Act.put, List.setIfInBounds_toArray]; dsimp only [List.set_cons_zero, List.set_cons_succ]
          refine takeH (i := 8) (d := (some 265)) (v := ?v21) rfl rfl (by as_aux_lemma => kernel_rfl) (by as_aux_lemma => kernel_rfl) (by as_aux_lemma => kernel_rfl) (fun _ _ _ h => h) (by rfl) ?hy21 (by assumption) ?_
          case hy21 => ((intro w hSw; (try dsimp only at hSw); (try go_split_ands); go_simp); try with_reducible rfl)
          simp only [Act.put, List.setIfInBounds_toArray]; dsimp only [List.set_cons_zero, List.set_cons_succ]
          have z8 := v2.blk (v1.blk z6)
          have f6 := cellB z8
          have y6 := frozB z8
          have V8 := (V6.trans v1).trans v2
          clear z6 v1 v2 V6
          refine wpAnyH_ready (rs := [10]) (by as_aux_lemma => kernel_rfl) (by simp) ?_
          refine AllReadyH.cons rfl (fun K hK => ?_) AllReadyH.nil
          go_simp
          obtain ⟨W7, hW7⟩ : ∃ W7, ((((y2.setCell ⟨b, 0, none⟩ (.int .i64 0)).setCell ⟨b, 1, none⟩ (.int .i64 0)).setCell ⟨b, 2, none⟩ (.int .i64 0)).setCell ⟨b, 3, none⟩ (.int .i64 0)) = W7 := ⟨_, rfl⟩
          have V7 : Up wr.drew W7 := by rw [← hW7]; exact V8.set4 (by omega) _ _ _ _
          rw [hW7]
          refine hK.out _ _ ⟨S5.trans V7, HQ.out _ (S5.trans V7)⟩ (fun hHeld => ?_)
          clear hK K hW7 V7 z8 S5 V8 f6 y6
          refine takeH (i := 11) (d := (some 24)) (v := ?v23) rfl rfl (by as_aux_lemma => kernel_rfl) (by as_aux_lemma => kernel_rfl) (by as_aux_lemma => kernel_rfl) (fun _ _ _ h => h) (by rfl) ?hy23 (by assumption) ?_
          case hy23 => ((intro w hSw; (try dsimp only at hSw); (try go_split_ands); go_simp); try with_reducible rfl)
          simp only [Act.put, List.setIfInBounds_toArray]; dsimp only [List.set_cons_zero, List.set_cons_succ]
          refine wpAnyH_done (by as_aux_lemma => kernel_rfl) ?_ _
          exact HKey.out _ b b1 hHeld.1
      intro w7 b7 b8' V7
      clear V
      go_wp2_with fail
      refine wp_region_held_drew (S := fun w' => Up X w' ∧ w'.cell? ⟨g2, j * 2, none⟩ = some (.int .i64 ah) ∧ w'.cell? ⟨g2, j * 2 + 1, none⟩ = some (.slice a n c)) (by as_aux_lemma => kernel_rfl) ⟨V7.drew, HQ.out _ V7.drew⟩ (fun hHeld => ?_)
      clear V7
      refine takeH (i := 1) (d := (some 268)) (v := ?v24) rfl rfl (by as_aux_lemma => kernel_rfl) (by as_aux_lemma => kernel_rfl) (by as_aux_lemma => kernel_rfl) (fun _ _ _ h => h) (by rfl) ?hy24 (by assumption) ?_
      case hy24 => ((intro w hSw; (try dsimp only at hSw); (try go_split_ands); go_simp); try with_reducible rfl)
      simp only [Act.put, List.setIfInBounds_toArray]; dsimp only [List.set_cons_zero, List.set_cons_succ]
      refine takeH (i := 2) (d := (some 269)) (v := ?v25) rfl rfl (by as_aux_lemma => kernel_rfl) (by as_aux_lemma => kernel_rfl) (by as_aux_lemma => kernel_rfl) (fun _ _ _ h => h) (by rfl) ?hy25 (by assumption) ?_
      case hy25 => ((intro w hSw; (try dsimp only at hSw); (try go_split_ands); go_simp); try with_reducible rfl)
      simp only [Act.put, List.setIfInBounds_toArray]; dsimp only [List.set_cons_zero, List.set_cons_succ]
      refine takeH (i := 3) (d := (some 270)) (v := ?v26) rfl rfl (by as_aux_lemma => kernel_rfl) (by as_aux_lemma => kernel_rfl) (by as_aux_lemma => kernel_rfl) (fun _ _ _ h => h) (by rfl) ?hy26 (by assumption) ?_
      case hy26 => ((intro w hSw; (try dsimp only at hSw); (try go_split_ands); go_simp); try with_reducible rfl)
      simp only [Act.put, List.setIfInBounds_toArray]; dsimp only [List.set_cons_zero, List.set_cons_succ]
      refine takeH (i := 4) (d := (some 271)) (v := ?v27) rfl rfl (by as_aux_lemma => kernel_rfl) (by as_aux_lemma => kernel_rfl) (by as_aux_lemma => kernel_rfl) (fun _ _ _ h => h) (by rfl) ?hy27 (by assumption) ?_
      case hy27 => ((intro w hSw; (try dsimp only at hSw); (try go_split_ands); go_simp); try with_reducible rfl)
      simp only [Act.put, List.setIfInBounds_toArray]; dsimp only [List.set_cons_zero, List.set_cons_succ]
      refine wpAnyH_ready (rs := [0]) (by as_aux_lemma => kernel_rfl) (by simp) ?_
      refine AllReadyH.cons rfl (fun K hK => ?_) AllReadyH.nil
      go_simp
      refine (l_week_any _ _ _).mono ?_
      rintro e x19 ⟨b19, rfl, u19, AW⟩
      go_wp2_with fail
      skip
      refine hK.out _ _ ⟨hHeld.1.trans u19, HQ.out _ (hHeld.1.trans u19)⟩ (fun hHeld => ?_)
      clear hK K u19
      refine wpAnyH_ready (rs := [5]) (by as_aux_lemma => kernel_rfl) (by simp) ?_
      refine AllReadyH.cons rfl (fun K hK => ?_) AllReadyH.nil
      go_simp
      refine (l_at_any _ _ _ _ _).mono ?_
      rintro e x20 ⟨rfl, u20⟩
      go_wp2_with fail
      replace AW := AW.up u20
      refine hK.out _ _ ⟨hHeld.1.trans u20, HQ.out _ (hHeld.1.trans u20)⟩ (fun hHeld => ?_)
      clear hK K u20
      refine wpAnyH_ready (rs := [6]) (by as_aux_lemma => kernel_rfl) (by simp) ?_
      refine AllReadyH.cons rfl (fun K hK => ?_) AllReadyH.nil
      go_simp
      refine (Kn.ticks AW (HBB.out.up hHeld.1) HE.out (by omega)).mono ?_
      rintro e x21 ⟨rfl, u21⟩
      go_wp2_with fail
      refine hK.out _ _ ⟨hHeld.1.trans u21, HQ.out _ (hHeld.1.trans u21)⟩ (fun hHeld => ?_)
      clear hK K u21
      refine takeH (i := 7) (d := (some 266)) (v := ?v31) rfl rfl (by as_aux_lemma => kernel_rfl) (by as_aux_lemma => kernel_rfl) (by as_aux_lemma => kernel_rfl) (fun _ _ _ h => h) (by rfl) ?hy31 (by assumption) ?_
      case hy31 => ((intro w hSw; (try dsimp only at hSw); (try go_split_ands); go_simp); try with_reducible rfl)
      simp only [Act.put, List.setIfInBounds_toArray]; dsimp only [List.set_cons_zero, List.set_cons_succ]
      refine takeH (i := 8) (d := (some 274)) (v := ?v32) rfl rfl (by as_aux_lemma => kernel_rfl) (by as_aux_lemma => kernel_rfl) (by as_aux_lemma => kernel_rfl) (fun _ _ _ h => h) (by rfl) ?hy32 (by assumption) ?_
      case hy32 => ((intro w hSw; (try dsimp only at hSw); (try go_split_ands); go_simp); try with_reducible rfl)
      simp only [Act.put, List.setIfInBounds_toArray]; dsimp only [List.set_cons_zero, List.set_cons_succ]
      refine takeH (i := 9) (d := (some 275)) (v := ?v33) rfl rfl (by as_aux_lemma => kernel_rfl) (by as_aux_lemma => kernel_rfl) (by as_aux_lemma => kernel_rfl) (fun _ _ _ h => h) (by rfl) ?hy33 (by assumption) ?_
      case hy33 => ((intro w hSw; (try dsimp only at hSw); (try go_split_ands); go_simp); try with_reducible rfl)
      simp only [Act.put, List.setIfInBounds_toArray]; dsimp only [List.set_cons_zero, List.set_cons_succ]
      refine takeH (i := 10) (d := (some 25)) (v := ?v34) rfl rfl (by as_aux_lemma => kernel_rfl) (by as_aux_lemma => kernel_rfl) (by as_aux_lemma => kernel_rfl) (fun _ _ _ h => h) (by rfl) ?hy34 (by assumption) ?_
      case hy34 => ((intro w hSw; (try dsimp only at hSw); (try go_split_ands); go_simp); try with_reducible rfl)
      simp only [Act.put, List.setIfInBounds_toArray]; dsimp only [List.set_cons_zero, List.set_cons_succ]
      refine takeH (i := 11) (d := (some 26)) (v := ?v35) rfl rfl (by as_aux_lemma => kernel_rfl) (by as_aux_lemma => kernel_rfl) (by as_aux_lemma => kernel_rfl) (fun _ _ _ h => h) (by rfl) ?hy35 (by assumption) ?_
      case hy35 => ((intro w hSw; (try dsimp only at hSw); (try go_split_ands); go_simp); try with_reducible rfl)
      simp only [Act.put, List.setIfInBounds_toArray]; dsimp only [List.set_cons_zero, List.set_cons_succ]
      refine wpAnyH_done (by as_aux_lemma => kernel_rfl) ?_ _
      have V22 := hHeld.1
      clear hHeld
      clear AW
      go_wp2_with fail
      refine wp_region_held_drew (S := fun w' => Up X w' ∧ w'.cell? ⟨g2, j * 2, none⟩ = some (.int .i64 ah) ∧ w'.cell? ⟨g2, j * 2 + 1, none⟩ = some (.slice a n c)) (by as_aux_lemma => kernel_rfl) ⟨V22.drew, HQ.out _ V22.drew⟩ (fun hHeld => ?_)
      clear V22
      refine takeH (i := 1) (d := (some 278)) (v := ?v36) rfl rfl (by as_aux_lemma => kernel_rfl) (by as_aux_lemma => kernel_rfl) (by as_aux_lemma => kernel_rfl) (fun _ _ _ h => h) (by rfl) ?hy36 (by assumption) ?_
      case hy36 => ((intro w hSw; (try dsimp only at hSw); (try go_split_ands); go_simp); try with_reducible rfl)
      simp only [Act.put, List.setIfInBounds_toArray]; dsimp only [List.set_cons_zero, List.set_cons_succ]
      refine takeH (i := 2) (d := (some 279)) (v := ?v37) rfl rfl (by as_aux_lemma => kernel_rfl) (by as_aux_lemma => kernel_rfl) (by as_aux_lemma => kernel_rfl) (fun _ _ _ h => h) (by rfl) ?hy37 (by assumption) ?_
      case hy37 => ((intro w hSw; (try dsimp only at hSw); (try go_split_ands); go_simp); try with_reducible rfl)
      simp only [Act.put, List.setIfInBounds_toArray]; dsimp only [List.set_cons_zero, List.set_cons_succ]
      refine takeH (i := 3) (d := (some 280)) (v := ?v38) rfl rfl (by as_aux_lemma => kernel_rfl) (by as_aux_lemma => kernel_rfl) (by as_aux_lemma => kernel_rfl) (fun _ _ _ h => h) (by rfl) ?hy38 (by assumption) ?_
      case hy38 => ((intro w hSw; (try dsimp only at hSw); (try go_split_ands); go_simp); try with_reducible rfl)
      simp only [Act.put, List.setIfInBounds_toArray]; dsimp only [List.set_cons_zero, List.set_cons_succ]
      refine takeH (i := 4) (d := (some 281)) (v := ?v39) rfl rfl (by as_aux_lemma => kernel_rfl) (by as_aux_lemma => kernel_rfl) (by as_aux_lemma => kernel_rfl) (fun _ _ _ h => h) (by rfl) ?hy39 (by assumption) ?_
      case hy39 => ((intro w hSw; (try dsimp only at hSw); (try go_split_ands); go_simp); try with_reducible rfl)
      simp only [Act.put, List.setIfInBounds_toArray]; dsimp only [List.set_cons_zero, List.set_cons_succ]
      refine wpAnyH_ready (rs := [0]) (by as_aux_lemma => kernel_rfl) (by simp) ?_
      refine AllReadyH.cons rfl (fun K hK => ?_) AllReadyH.nil
      go_simp
      refine (l_week_any _ _ _).mono ?_
      rintro e x23 ⟨b23, rfl, u23, AW⟩
      go_wp2_with fail
      skip
      refine hK.out _ _ ⟨hHeld.1.trans u23, HQ.out _ (hHeld.1.trans u23)⟩ (fun hHeld => ?_)
      clear hK K u23
      refine wpAnyH_ready (rs := [5]) (by as_aux_lemma => kernel_rfl) (by simp) ?_
      refine AllReadyH.cons rfl (fun K hK => ?_) AllReadyH.nil
      go_simp
      refine (Kn.twice AW (HBB.out.up hHeld.1) HE.out (by omega)).mono ?_
      rintro e x24 ⟨rfl, u24⟩
      go_wp2_with fail
      refine hK.out _ _ ⟨hHeld.1.trans u24, HQ.out _ (hHeld.1.trans u24)⟩ (fun hHeld => ?_)
      clear hK K u24
      refine takeH (i := 6) (d := (some 276)) (v := ?v42) rfl rfl (by as_aux_lemma => kernel_rfl) (by as_aux_lemma => kernel_rfl) (by as_aux_lemma => kernel_rfl) (fun _ _ _ h => h) (by rfl) ?hy42 (by assumption) ?_
      case hy42 => ((intro w hSw; (try dsimp only at hSw); (try go_split_ands); go_simp); try with_reducible rfl)
      simp only [Act.put, List.setIfInBounds_toArray]; dsimp only [List.set_cons_zero, List.set_cons_succ]
      refine takeH (i := 7) (d := (some 283)) (v := ?v43) rfl rfl (by as_aux_lemma => kernel_rfl) (by as_aux_lemma => kernel_rfl) (by as_aux_lemma => kernel_rfl) (fun _ _ _ h => h) (by rfl) ?hy43 (by assumption) ?_
      case hy43 => ((intro w hSw; (try dsimp only at hSw); (try go_split_ands); go_simp); try with_reducible rfl)
      simp only [Act.put, List.setIfInBounds_toArray]; dsimp only [List.set_cons_zero, List.set_cons_succ]
      refine takeH (i := 8) (d := (some 284)) (v := ?v44) rfl rfl (by as_aux_lemma => kernel_rfl) (by as_aux_lemma => kernel_rfl) (by as_aux_lemma => kernel_rfl) (fun _ _ _ h => h) (by rfl) ?hy44 (by assumption) ?_
      case hy44 => ((intro w hSw; (try dsimp only at hSw); (try go_split_ands); go_simp); try with_reducible rfl)
      simp only [Act.put, List.setIfInBounds_toArray]; dsimp only [List.set_cons_zero, List.set_cons_succ]
      refine takeH (i := 9) (d := (some 27)) (v := ?v45) rfl rfl (by as_aux_lemma => kernel_rfl) (by as_aux_lemma => kernel_rfl) (by as_aux_lemma => kernel_rfl) (fun _ _ _ h => h) (by rfl) ?hy45 (by assumption) ?_
      case hy45 => ((intro w hSw; (try dsimp only at hSw); (try go_split_ands); go_simp); try with_reducible rfl)
      simp only [Act.put, List.setIfInBounds_toArray]; dsimp only [List.set_cons_zero, List.set_cons_succ]
      refine takeH (i := 10) (d := (some 28)) (v := ?v46) rfl rfl (by as_aux_lemma => kernel_rfl) (by as_aux_lemma => kernel_rfl) (by as_aux_lemma => kernel_rfl) (fun _ _ _ h => h) (by rfl) ?hy46 (by assumption) ?_
      case hy46 => ((intro w hSw; (try dsimp only at hSw); (try go_split_ands); go_simp); try with_reducible rfl)
      simp only [Act.put, List.setIfInBounds_toArray]; dsimp only [List.set_cons_zero, List.set_cons_succ]
      refine wpAnyH_done (by as_aux_lemma => kernel_rfl) ?_ _
      have V25 := hHeld.1
      clear hHeld
      clear AW
      go_wp2_with fail
      refine wp_region_held_drew (S := fun w' => Up X w' ∧ w'.cell? ⟨g2, j * 2, none⟩ = some (.int .i64 ah) ∧ w'.cell? ⟨g2, j * 2 + 1, none⟩ = some (.slice a n c)) (by as_aux_lemma => kernel_rfl) ⟨V25.drew, HQ.out _ V25.drew⟩ (fun hHeld => ?_)
      clear V25
      refine takeH (i := 1) (d := (some 286)) (v := ?v47) rfl rfl (by as_aux_lemma => kernel_rfl) (by as_aux_lemma => kernel_rfl) (by as_aux_lemma => kernel_rfl) (fun _ _ _ h => h) (by rfl) ?hy47 (by assumption) ?_
      case hy47 => ((intro w hSw; (try dsimp only at hSw); (try go_split_ands); go_simp); try with_reducible rfl)
      simp only [Act.put, List.setIfInBounds_toArray]; dsimp only [List.set_cons_zero, List.set_cons_succ]
      refine takeH (i := 2) (d := (some 287)) (v := ?v48) rfl rfl (by as_aux_lemma => kernel_rfl) (by as_aux_lemma => kernel_rfl) (by as_aux_lemma => kernel_rfl) (fun _ _ _ h => h) (by rfl) ?hy48 (by assumption) ?_
      case hy48 => ((intro w hSw; (try dsimp only at hSw); (try go_split_ands); go_simp); try with_reducible rfl)
      simp only [Act.put, List.setIfInBounds_toArray]; dsimp only [List.set_cons_zero, List.set_cons_succ]
      refine takeH (i := 3) (d := (some 288)) (v := ?v49) rfl rfl (by as_aux_lemma => kernel_rfl) (by as_aux_lemma => kernel_rfl) (by as_aux_lemma => kernel_rfl) (fun _ _ _ h => h) (by rfl) ?hy49 (by assumption) ?_
      case hy49 => ((intro w hSw; (try dsimp only at hSw); (try go_split_ands); go_simp); try with_reducible rfl)
      simp only [Act.put, List.setIfInBounds_toArray]; dsimp only [List.set_cons_zero, List.set_cons_succ]
      refine takeH (i := 4) (d := (some 289)) (v := ?v50) rfl rfl (by as_aux_lemma => kernel_rfl) (by as_aux_lemma => kernel_rfl) (by as_aux_lemma => kernel_rfl) (fun _ _ _ h => h) (by rfl) ?hy50 (by assumption) ?_
      case hy50 => ((intro w hSw; (try dsimp only at hSw); (try go_split_ands); go_simp); try with_reducible rfl)
      simp only [Act.put, List.setIfInBounds_toArray]; dsimp only [List.set_cons_zero, List.set_cons_succ]
      refine wpAnyH_ready (rs := [0]) (by as_aux_lemma => kernel_rfl) (by simp) ?_
      refine AllReadyH.cons rfl (fun K hK => ?_) AllReadyH.nil
      go_simp
      refine (l_week_any _ _ _).mono ?_
      rintro e x26 ⟨b26, rfl, u26, AW⟩
      go_wp2_with fail
      skip
      refine hK.out _ _ ⟨hHeld.1.trans u26, HQ.out _ (hHeld.1.trans u26)⟩ (fun hHeld => ?_)
      clear hK K u26
      refine wpAnyH_ready (rs := [5]) (by as_aux_lemma => kernel_rfl) (by simp) ?_
      refine AllReadyH.cons rfl (fun K hK => ?_) AllReadyH.nil
      go_simp
      refine (Kn.check AW (HBB.out.up hHeld.1) HE.out).mono ?_
      rintro e x27 ⟨rfl, u27⟩
      go_wp2_with fail
      refine hK.out _ _ ⟨hHeld.1.trans u27, HQ.out _ (hHeld.1.trans u27)⟩ (fun hHeld => ?_)
      clear hK K u27
      refine takeH (i := 6) (d := (some 291)) (v := ?v53) rfl rfl (by as_aux_lemma => kernel_rfl) (by as_aux_lemma => kernel_rfl) (by as_aux_lemma => kernel_rfl) (fun _ _ _ h => h) (by rfl) ?hy53 (by assumption) ?_
      case hy53 => ((intro w hSw; (try dsimp only at hSw); (try go_split_ands); go_simp); try with_reducible rfl)
      simp only [Act.put, List.setIfInBounds_toArray]; dsimp only [List.set_cons_zero, List.set_cons_succ]
      refine takeH (i := 7) (d := (some 292)) (v := ?v54) rfl rfl (by as_aux_lemma => kernel_rfl) (by as_aux_lemma => kernel_rfl) (by as_aux_lemma => kernel_rfl) (fun _ _ _ h => h) (by rfl) ?hy54 (by assumption) ?_
      case hy54 => ((intro w hSw; (try dsimp only at hSw); (try go_split_ands); go_simp); try with_reducible rfl)
      simp only [Act.put, List.setIfInBounds_toArray]; dsimp only [List.set_cons_zero, List.set_cons_succ]
      refine takeH (i := 8) (d := (some 293)) (v := ?v55) rfl rfl (by as_aux_lemma => kernel_rfl) (by as_aux_lemma => kernel_rfl) (by as_aux_lemma => kernel_rfl) (fun _ _ _ h => h) (by rfl) ?hy55 (by assumption) ?_
      case hy55 => ((intro w hSw; (try dsimp only at hSw); (try go_split_ands); go_simp); try with_reducible rfl)
      simp only [Act.put, List.setIfInBounds_toArray]; dsimp only [List.set_cons_zero, List.set_cons_succ]
      refine takeH (i := 9) (d := (some 294)) (v := ?v56) rfl rfl (by as_aux_lemma => kernel_rfl) (by as_aux_lemma => kernel_rfl) (by as_aux_lemma => kernel_rfl) (fun _ _ _ h => h) (by rfl) ?hy56 (by assumption) ?_
      case hy56 => ((intro w hSw; (try dsimp only at hSw); (try go_split_ands); go_simp); try with_reducible rfl)
      simp only [Act.put, List.setIfInBounds_toArray]; dsimp only [List.set_cons_zero, List.set_cons_succ]
      refine takeH (i := 10) (d := (some 295)) (v := ?v57) rfl rfl (by as_aux_lemma => kernel_rfl) (by as_aux_lemma => kernel_rfl) (by as_aux_lemma => kernel_rfl) (fun _ _ _ h => h) (by rfl) ?hy57 (by assumption) ?_
      case hy57 => ((intro w hSw; (try dsimp only at hSw); (try go_split_ands); go_simp); try with_reducible rfl)
      simp only [Act.put, List.setIfInBounds_toArray]; dsimp only [List.set_cons_zero, List.set_cons_succ]
      refine takeH (i := 11) (d := (some 296)) (v := ?v58) rfl rfl (by as_aux_lemma => kernel_rfl) (by as_aux_lemma => kernel_rfl) (by as_aux_lemma => kernel_rfl) (fun _ _ _ h => h) (by rfl) ?hy58 (by assumption) ?_
      case hy58 => ((intro w hSw; (try dsimp only at hSw); (try go_split_ands); go_simp); try with_reducible rfl)
      simp only [Act.put, List.setIfInBounds_toArray]; dsimp only [List.set_cons_zero, List.set_cons_succ]
      refine takeH (i := 12) (d := (some 297)) (v := ?v59) rfl rfl (by as_aux_lemma => kernel_rfl) (by as_aux_lemma => kernel_rfl) (by as_aux_lemma => kernel_rfl) (fun _ _ _ h => h) (by rfl) ?hy59 (by assumption) ?_
      case hy59 => ((intro w hSw; (try dsimp only at hSw); (try go_split_ands); go_simp); try with_reducible rfl)
      simp only [Act.put, List.setIfInBounds_toArray]; dsimp only [List.set_cons_zero, List.set_cons_succ]
      refine takeH (i := 13) (d := (some 298)) (v := ?v60) rfl rfl (by as_aux_lemma => kernel_rfl) (by as_aux_lemma => kernel_rfl) (by as_aux_lemma => kernel_rfl) (fun _ _ _ h => h) (by rfl) ?hy60 (by assumption) ?_
      case hy60 => ((intro w hSw; (try dsimp only at hSw); (try go_split_ands); go_simp); try with_reducible rfl)
      simp only [Act.put, List.setIfInBounds_toArray]; dsimp only [List.set_cons_zero, List.set_cons_succ]
      refine takeH (i := 14) (d := (some 299)) (v := ?v61) rfl rfl (by as_aux_lemma => kernel_rfl) (by as_aux_lemma => kernel_rfl) (by as_aux_lemma => kernel_rfl) (fun _ _ _ h => h) (by rfl) ?hy61 (by assumption) ?_
      case hy61 => ((intro w hSw; (try dsimp only at hSw); (try go_split_ands); go_simp); try with_reducible rfl)
      simp only [Act.put, List.setIfInBounds_toArray]; dsimp only [List.set_cons_zero, List.set_cons_succ]
      refine takeH (i := 15) (d := (some 300)) (v := ?v62) rfl rfl (by as_aux_lemma => kernel_rfl) (by as_aux_lemma => kernel_rfl) (by as_aux_lemma => kernel_rfl) (fun _ _ _ h => h) (by rfl) ?hy62 (by assumption) ?_
      case hy62 => ((intro w hSw; (try dsimp only at hSw); (try go_split_ands); go_simp); try with_reducible rfl)
      simp only [Act.put, List.setIfInBounds_toArray]; dsimp only [List.set_cons_zero, List.set_cons_succ]
      refine takeH (i := 16) (d := (some 301)) (v := ?v63) rfl rfl (by as_aux_lemma => kernel_rfl) (by as_aux_lemma => kernel_rfl) (by as_aux_lemma => kernel_rfl) (fun _ _ _ h => h) (by rfl) ?hy63 (by assumption) ?_
      case hy63 => ((intro w hSw; (try dsimp only at hSw); (try go_split_ands); go_simp); try with_reducible rfl)
      simp only [Act.put, List.setIfInBounds_toArray]; dsimp only [List.set_cons_zero, List.set_cons_succ]
      refine takeH (i := 17) (d := (some 302)) (v := ?v64) rfl rfl (by as_aux_lemma => kernel_rfl) (by as_aux_lemma => kernel_rfl) (by as_aux_lemma => kernel_rfl) (fun _ _ _ h => h) (by rfl) ?hy64 (by assumption) ?_
      case hy64 => ((intro w hSw; (try dsimp only at hSw); (try go_split_ands); go_simp); try with_reducible rfl)
      simp only [Act.put, List.setIfInBounds_toArray]; dsimp only [List.set_cons_zero, List.set_cons_succ]
      refine takeH (i := 18) (d := (some 303)) (v := ?v65) rfl rfl (by as_aux_lemma => kernel_rfl) (by as_aux_lemma => kernel_rfl) (by as_aux_lemma => kernel_rfl) (fun _ _ _ h => h) (by rfl) ?hy65 (by assumption) ?_
      case hy65 => ((intro w hSw; (try dsimp only at hSw); (try go_split_ands); go_simp); try with_reducible rfl)
      simp only [Act.put, List.setIfInBounds_toArray]; dsimp only [List.set_cons_zero, List.set_cons_succ]
      refine wpAnyH_done (by as_aux_lemma => kernel_rfl) ?_ _
      have V28 := hHeld.1
      clear hHeld
      go_wp2
      go_roundw
      case rel => exact ⟨j + 1, HJ.out, by go_num, V28⟩
      case measure => have := HJ.out; simp [intOf]; omega
    · have n7 : ¬ ((j : Int) < 7) := by omega
      have U11 := U10.trans V
      clear U10 V HT hj hlt hgl
      go_upto_if 254 with (fail)
      go_step
      go_step
      go_step
      go_step
      go_step
      go_step
      exact kn_tail11 _ _ _ _ _ _ _ _ _ _ _ _ _ _ _ _ _ _ _ _ _ _ _ _ _ _ _ _ _ _ _ _ _ _ _ _ _ _ _ _ _ _ _ _ _ _ _ _ _ _ _ _ _ _ _ _ _ _ _ _ _ _ _ _ _ _ _ _ _ _ _ _ _ _ _ _ _ _ _ _ _ _ _ _ _ _ _ _ _ _ _ _ _ _ _ _ _ _ _ _ _ _ _ _ _ _ _ _ _ _ _ _ _ _ _ _ _ _ _ _ _ _ _ _ _ _ _ _ _ _ _ _ _ _ _ _ _ _ _ _ _ _ _ _ _ _ _ _ _ _ _ _ _ _ _ _ _ _ _ _ _ _ _ _ _ _ _ _ _ _ _ _ _ _ _ _ _ _ _ _ _ _ _ _ _ _ _ _ _ _ _ _ _ _ _ _ _ _ _ _ _ _ _ _ _ _ _ _ _ _ _ _ _ _ _ _ _ _ _ _ _ _ _ _ _ _ _ _ _ _ _ _ _ _ _ _ _ _ _ _ _ _ _ _ _ _ _ _ _ _ _ _ _ _ _ _ _ _ _ _ _ _ _ _ _ _ _ _ _ _ _ _ _ _ _ _ _ _ _ _ _ _ _ _ _ _ _ _ _ _ _ _ _ _ _ _ _ _ _ _ _ _ _ _ U11

end Go.Proofs.Ytghelfbigbdkkaa
