import Derived.Test.YtcadpdbadgejfaaMor
import Derived.Test.YtcadpdbadgejfaaFMts
/- The law ScaleKnown, its last piece: regions 41 to 52. -/
namespace Go.Proofs.Ytcadpdbadgejfaa
open Go.RowKit

noncomputable def Kn.body : Code := (Try.f15.body).getD .skip
def Kn.rt : Nat → Code → Code
  | 0, c => c
  | n + 1, .seq _ b => Kn.rt n b
  | _, c => c
theorem kn_few1 : S.Few 0 500 500 (-1) 201 := ⟨Nat.le_refl _, fun x hx => of_decide_eq_true (List.all_eq_true.1 (show ((List.range 201).all fun x => decide ((decide (max (-1) (- -1) ≤ S.most (S.part 0 500 (S.against (-1))) 500 x)) = false)) = true by kernel_rfl) x (List.mem_range.2 hx)), fun h => absurd h (Nat.lt_irrefl _)⟩
theorem kn_few2 : S.Few 0 500 500 20000 40 := S.First.of_check (by omega) (by as_aux_lemma => kernel_rfl) (by as_aux_lemma => kernel_rfl)
theorem kn_few3 : S.Few 10 5 4 0 0 := S.First.of_check (by omega) (by as_aux_lemma => kernel_rfl) (by as_aux_lemma => kernel_rfl)
theorem kn_still : S.ok 0 500 500 0 0 = true := by kernel_rfl
theorem kn_idle : S.bookOk 0 500 500 0 0 1 [] [(0, -1, 0)] = true := by kernel_rfl
theorem kn_F1 (w : World) : Calls Try.prog 18 #[RV 0 500 500 0 0, .int .i64 (-1)] w fun e w' => e = .returned (.tuple #[.int .i64 0, .int .i64 4]) ∧ Up w w' :=
  (Fewest_yes w kn_still (-1) (by omega) (by omega) kn_few1).mono fun e w' ⟨he, u⟩ => ⟨by rw [he]; kernel_rfl, u⟩
theorem kn_P1 (w : World) : Calls Try.prog 20 #[RV 0 500 500 0 0, .int .i64 (-1)] w fun e w' => e = .returned (.tuple #[.slice none 0 0, .int .i64 4]) ∧ Up w w' :=
  (Plan_none w kn_still (-1) (by omega) (by omega) kn_few1 (by omega)).mono fun e w' h => h
theorem kn_ends : (S.bk 0 0 1 [] [(0, -1, 0)]).Ends 1 (-1) 0 := by
  have cz : ∀ i, ([] : List Int).getD i 0 = 0 := fun i => rfl
  have one : ∀ x : Int, -1 ≤ x → x ≤ 0 → (S.bk 0 0 1 [] [(0, -1, 0)]).Tru (fun _ => x) := fun x h1 h2 => by
    refine ⟨fun i _ => by constructor <;> omega, fun i _ l hl _ => ?_, fun i _ => ?_⟩
    · obtain rfl : l = (0, -1, 0) := List.mem_singleton.1 hl
      exact ⟨h1, h2⟩
    · show ([] : List Int).getD i 0 + 0 ≤ x - x ∧ x - x ≤ ([] : List Int).getD i 0 + 0
      rw [cz]
      omega
  refine ⟨⟨_, one (-1) (by omega) (by omega), rfl⟩, ⟨_, one 0 (by omega) (by omega), rfl⟩, fun v hv => ?_⟩
  have a := hv.look 0 (Nat.zero_le _) (0, -1, 0) (List.mem_singleton.2 rfl) rfl
  have b : ([] : List Int).getD 0 0 + 0 ≤ v (0 + 1) - v 0 ∧ v (0 + 1) - v 0 ≤ ([] : List Int).getD 0 0 + 0 := hv.step 0 (by decide)
  rw [cz] at b
  have a' : -1 ≤ v 0 ∧ v 0 ≤ 0 := a
  have e : v (0 + 1) = v 1 := rfl
  omega
theorem kn_M1 {a' : Option Addr} {n' c' : Nat} {w : World} (I' : Lks w (.slice a' n' c') [(0, -1, 0)]) : Calls Try.prog 35 #[BV 0 500 500 0 0 1 (.slice none 0 0) (.slice a' n' c')] w fun e w' => e = .returned (.tuple #[.int .i64 0, .int .i64 0, .int .i64 4]) ∧ Up w w' :=
  (Meets_any (Ints.nil w) I').mono fun e w' ⟨l, h, r, t, u, ht⟩ => by
    rcases t.yes kn_idle ⟨by omega, by omega⟩ with ⟨_, _, _, q⟩ | ⟨p1, p2⟩
    · obtain ⟨v, hv, _⟩ := kn_ends.low
      exact absurd hv (q v)
    · obtain ⟨rfl, rfl⟩ := p2.uniq kn_ends
      rcases ht with ⟨h1, _⟩ | ⟨_, rl, rh, rn, h1, h2, h3, he⟩
      · exact absurd p1 h1
      · obtain rfl := S.First.one h1 kn_few1
        refine ⟨?_, u⟩
        rw [he]
        unfold S.meetsV
        rw [if_neg (by omega)]
theorem kn_I1 {v : Value} {w : World} (I : Ints w v [4, 8, 8]) : Calls Try.prog 16 #[RV 10 5 4 (-1) 2, .int .i64 (-20), v] w fun e w' => e = .returned (.tuple #[.bool false, .int .i64 0]) ∧ Up w w' :=
  (IsPlan_yes exRule (-20) (by omega) (by omega) I).mono fun e w' ⟨he, u⟩ => ⟨by rw [he]; kernel_rfl, u⟩
theorem kn_I2 (w : World) : Calls Try.prog 16 #[RV 10 5 4 (-1) 2, .int .i64 0, .slice none 0 0] w fun e w' => e = .returned (.tuple #[.bool true, .int .i64 0]) ∧ Up w w' :=
  (IsPlan_yes exRule 0 (by omega) (by omega) (Ints.nil w)).mono fun e w' ⟨he, u⟩ => ⟨by rw [he]; kernel_rfl, u⟩
theorem kn_F2 (w : World) : Calls Try.prog 18 #[RV 0 500 500 0 0, .int .i64 20000] w fun e w' => e = .returned (.tuple #[.int .i64 40, .int .i64 0]) ∧ Up w w' :=
  (Fewest_yes w kn_still 20000 (by omega) (by omega) kn_few2).mono fun e w' ⟨he, u⟩ => ⟨by rw [he]; kernel_rfl, u⟩
theorem kn_P2 (w : World) : Calls Try.prog 20 #[RV 10 5 4 (-1) 2, .int .i64 0] w fun e w' => ∃ a c, e = .returned (.tuple #[.slice a 0 c, .int .i64 0]) ∧ Up w w' :=
  (Plan_yes w exRule 0 (by omega) (by omega) kn_few3 (by omega)).mono fun e w' ⟨v, L, he, _, u, I⟩ => by
    obtain ⟨a, c, rfl, _⟩ := I.is
    rw [S.list_len] at he
    exact ⟨a, c, he, u⟩
theorem kn_E1 {a a' : Option Addr} {n c n' c' : Nat} {w : World} (I : Ints w (.slice a n c) exSt) (I' : Lks w (.slice a' n' c') exLk) : Calls Try.prog 27 #[BV 10 5 4 (-1) 2 10 (.slice a n c) (.slice a' n' c'), .int .i64 10] w fun e w' => e = .returned (.tuple #[SpV (-5) 12, .int .i64 0]) ∧ Up w w' :=
  (Error_any I I' 10).mono fun e w' ⟨l, h, r, he, t, u⟩ => by
    obtain ⟨rfl, rfl, rfl⟩ := exTold (i := 10) (by omega) t
    exact ⟨he, u⟩
theorem kn_S1 (w : World) : Calls Try.prog 24 #[RV 10 5 4 (-1) 2, .int .i64 0, .slice none 0 0] w fun e w' => ∃ v', e = .returned (.tuple #[v', .int .i64 0]) ∧ Up w w' ∧ Ints w' v' [0] :=
  (Shown_yes w exRule 0 (by omega) (by omega) (Ints.nil w) (by as_aux_lemma => kernel_rfl)).mono fun e w' ⟨v', he, u, I'⟩ => ⟨v', he, u, by
    have e2 : (List.range (([] : List Int).length + 1)).map (S.shows 0 []) = [0] := by kernel_rfl
    rw [e2] at I'; exact I'⟩

set_option maxRecDepth 1000000 in
set_option maxHeartbeats 4000000 in
set_option linter.unusedSimpArgs false in
theorem kn_tail41 (c0 c1 c2 c3 c4 c5 c6 c7 c8 c9 c10 c11 c12 c13 c14 c15 c16 c17 c18 c19 c20 c21 c22 c23 c24 c25 c26 c27 c28 c29 c30 c31 c32 c33 c34 c35 c36 c37 c38 c39 c40 c41 c42 c43 c44 c45 c46 c47 c48 c49 c50 c51 c52 c53 c54 c55 c56 c57 c58 c59 c60 c61 c62 c63 c64 c65 c66 c67 c68 c69 c70 c71 c72 c73 c74 c75 c76 c77 c78 c79 c80 c81 c82 c83 c84 c85 c86 c87 c88 c89 c90 c91 c92 c93 c94 c95 c96 c97 c98 c99 c100 c101 c102 c103 c104 c105 c106 c107 c108 c109 c110 c111 c112 c113 c114 c115 c116 c117 c118 c119 c120 c121 c122 c123 c124 c125 c126 c127 c128 c129 c130 c131 c132 c133 c134 c135 c136 c137 c138 c139 c140 c141 c142 c143 c144 c145 c146 c147 c148 c149 c150 c151 c152 c153 c154 c155 c156 c157 c158 c159 c160 c161 c162 c163 c164 c165 c166 c167 c168 c169 c170 c171 c172 c173 c174 c175 c176 c177 c178 c179 c180 c181 c182 c183 c184 c185 c186 c187 c188 c189 c190 c191 c192 c193 c194 c195 c196 c197 c198 c199 c200 c201 c202 c203 c204 c205 c206 c207 c208 c209 c210 c211 c212 c213 c214 c215 c216 c217 c218 c219 c220 c221 c222 c223 c224 c225 c226 c227 c228 c229 c230 c231 c232 c233 c234 c235 c236 c237 c238 c239 c240 c241 c242 c243 c244 c245 c246 c247 c248 c249 c250 c251 c252 c253 c254 c255 c256 c257 c258 c259 c260 c261 c262 c263 c264 c265 c266 c267 c268 c269 c270 c271 c272 c273 c274 c275 c276 c277 c278 c279 c280 c281 c282 c283 c284 c285 c286 c287 c288 c289 c290 c291 c292 c293 c294 c295 c296 c297 c298 c299 c300 c301 c302 c303 c304 c305 c306 c307 c308 c309 c310 c311 c312 c313 c314 c315 c316 c317 c318 c319 c320 : Value) {w0 w : World} (U0 : Up w0 w) : Code.wp Try.prog (Kn.rt 23 Kn.body) (bodyPost Try.prog Try.f15 fun e w' => e = .returned (.bool true) ∧ Up w0 w') ⟨#[c0, c1, c2, c3, c4, c5, c6, c7, c8, c9, c10, c11, c12, c13, c14, c15, c16, c17, c18, c19, c20, c21, c22, c23, c24, c25, c26, c27, c28, c29, c30, c31, c32, c33, c34, c35, c36, c37, c38, c39, c40, c41, c42, c43, c44, c45, c46, c47, c48, c49, c50, c51, c52, c53, c54, c55, c56, c57, c58, c59, c60, c61, c62, c63, c64, c65, c66, c67, c68, c69, c70, c71, c72, c73, c74, c75, c76, c77, c78, c79, c80, c81, c82, c83, c84, c85, c86, c87, c88, c89, c90, c91, c92, c93, c94, c95, c96, c97, c98, c99, c100, c101, c102, c103, c104, c105, c106, c107, c108, c109, c110, c111, c112, c113, c114, c115, c116, c117, c118, c119, c120, c121, c122, c123, c124, c125, c126, c127, c128, c129, c130, c131, c132, c133, c134, c135, c136, c137, c138, c139, c140, c141, c142, c143, c144, c145, c146, c147, c148, c149, c150, c151, c152, c153, c154, c155, c156, c157, c158, c159, c160, c161, c162, c163, c164, c165, c166, c167, c168, c169, c170, c171, c172, c173, c174, c175, c176, c177, c178, c179, c180, c181, c182, c183, c184, c185, c186, c187, c188, c189, c190, c191, c192, c193, c194, c195, c196, c197, c198, c199, c200, c201, c202, c203, c204, c205, c206, c207, c208, c209, c210, c211, c212, c213, c214, c215, c216, c217, c218, c219, c220, c221, c222, c223, c224, c225, c226, c227, c228, c229, c230, c231, c232, c233, c234, c235, c236, c237, c238, c239, c240, c241, c242, c243, c244, c245, c246, c247, c248, c249, c250, c251, c252, c253, c254, c255, c256, c257, c258, c259, c260, c261, c262, c263, c264, c265, c266, c267, c268, c269, c270, c271, c272, c273, c274, c275, c276, c277, c278, c279, c280, c281, c282, c283, c284, c285, c286, c287, c288, c289, c290, c291, c292, c293, c294, c295, c296, c297, c298, c299, c300, c301, c302, c303, c304, c305, c306, c307, c308, c309, c310, c311, c312, c313, c314, c315, c316, c317, c318, c319, c320, undef, undef, undef, undef, undef, undef, undef, undef, undef, undef, undef, undef, undef, undef, undef, undef, undef, undef, undef, undef, undef, undef, undef, undef, undef, undef, undef, undef, undef, undef, undef, undef, undef, undef, undef, undef, undef, undef, undef, undef, undef, undef, undef, undef, undef, undef, undef, undef, undef, undef, undef, undef, undef, undef, undef, undef, undef, undef, undef, undef, undef, undef, undef, undef, undef, undef, undef, undef, undef, undef, undef, undef, undef, undef, undef, undef, undef, undef, undef, undef, undef, undef, undef, undef, undef, undef, undef, undef, undef, undef, undef, undef, undef, undef, undef, undef, undef, undef, undef, undef, undef, undef, undef, undef, undef, undef, undef, undef, undef, undef, undef, undef, undef, undef, undef, undef, undef, undef], []⟩ w := by
  have HW := Lib.hid (fun w => l_works_any w)
  have HRu := Lib.hid (fun w => l_rule_any w)
  have HTo := Lib.hid (fun w => B_To_any (-1) 0 w)
  have A1 := Up.alloc (Up.refl w) (.cells #[.int .i64 0, .int .i64 500, .int .i64 500, .int .i64 0, .int .i64 0] 25)
  have m48 := blk_new w (.cells #[.int .i64 0, .int .i64 500, .int .i64 500, .int .i64 0, .int .i64 0] 25) _ rfl
  have V := U0.trans A1
  conv => arg 2; whnf
  go_wp2_with fail
  clear A1 U0
  obtain ⟨p48, hp⟩ : ∃ q, w.heap.size = q := ⟨_, rfl⟩
  obtain ⟨W1, hW⟩ : ∃ W, w.alloc (.cells #[.int .i64 0, .int .i64 500, .int .i64 500, .int .i64 0, .int .i64 0] 25) = W := ⟨_, rfl⟩
  rw [hp] at m48
  rw [hW] at m48 V
  rw [hW, hp]
  clear hW hp
  apply S.mergeA (fun w' p49 q => Up w0 w' ∧ mblk w' p48 = some (.cells #[.int .i64 0, .int .i64 500, .int .i64 500, .int .i64 0, .int .i64 0] 25 (0, 0)) ∧ mblk w' p49 = some (.cells (BC 0 500 500 0 0 1 (.slice none 0 0) (.slice (some ⟨q, 0, none⟩) 1 1)) 44 (0, 0)) ∧ mblk w' q = some (.cells #[.int .i64 0, .int .i64 (-1), .int .i64 0] 71 (0, 0)))
  · intro HKey
    refine (wpIn_wide (n := 5)).1 ?_
    refine wpIn_nrm ?_
    refine regionG (fun w' => Up w0 w' ∧ mblk w' p48 = some (.cells #[.int .i64 0, .int .i64 500, .int .i64 500, .int .i64 0, .int .i64 0] 25 (0, 0))) 6 (by as_aux_lemma => kernel_rfl) ⟨V.drew, by rw [blk_drew]; exact m48⟩ (fun hHeld hCl => ?_)
    refine takeG (i := 0) (d := (some 322)) (v := ?v1) rfl rfl (by as_aux_lemma => kernel_rfl) (by as_aux_lemma => kernel_rfl) (by decide) hCl (by as_aux_lemma => kernel_rfl) (by as_aux_lemma => kernel_rfl) (by as_aux_lemma => kernel_rfl) (fun _ _ _ h => h) (by rfl) ?hy1 (fun _ _ _ => trivial) (by assumption) (fun hCl' => ?_)
    case hy1 => ((intro w hSw; (try dsimp only at hSw); (try go_split_ands); go_simp); try with_reducible rfl)
    simp only [Act.put, List.setIfInBounds_toArray, List.set_cons_zero, List.set_cons_succ]
    replace hCl := hCl'; clear hCl'
    clear hHeld
    refine nextG2 (i := 1) (j := 5) (by as_aux_lemma => kernel_rfl) rfl rfl (by rfl) (by rfl) hCl ?_ ?_
    · skip
      refine (fun K hK => ?_)
      go_simp
      refine ⟨trivial, (callsIn_wide.2 (HTo.out _)).mono ?_⟩
      rintro e1 X1 ⟨rfl, u1⟩
      have A1 := Up.trans (Up.drew (Up.refl W1)) u1
      refine hK.out _ _ ⟨V.trans A1, Up.blk A1 m48⟩ (fun _ hCl => ?_)
      clear hK K
      try simp only [Act.put, List.setIfInBounds_toArray, List.set_cons_zero, List.set_cons_succ]
      refine takeG (i := 2) (d := (some 324)) (v := ?v2) rfl rfl (by as_aux_lemma => kernel_rfl) (by as_aux_lemma => kernel_rfl) (by decide) hCl (by as_aux_lemma => kernel_rfl) (by as_aux_lemma => kernel_rfl) (by as_aux_lemma => kernel_rfl) (fun _ _ _ h => h) (by rfl) ?hy2 (fun _ _ _ => trivial) (by assumption) (fun hCl' => ?_)
      case hy2 => ((intro w hSw; (try dsimp only at hSw); (try go_split_ands); go_simp); try with_reducible rfl)
      simp only [Act.put, List.setIfInBounds_toArray, List.set_cons_zero, List.set_cons_succ]
      replace hCl := hCl'; clear hCl'
      refine nextG2 (i := 3) (j := 5) (by as_aux_lemma => kernel_rfl) rfl rfl (by rfl) (by rfl) hCl ?_ ?_
      · skip
        refine (fun K hK => ?_)
        go_simp
        have A2 : Up W1 (X1.alloc (.cells #[.int .i64 0, .int .i64 (-1), .int .i64 0] 71)) := (Up.alloc A1 _)
        have l2 : mblk (X1.alloc (.cells #[.int .i64 0, .int .i64 (-1), .int .i64 0] 71)) X1.heap.size = some (.cells #[.int .i64 0, .int .i64 (-1), .int .i64 0] 71 (0, 0)) := by exact blk_new _ _ _ rfl
        have b2 := blk_lt (Up.blk A1 m48)
        have s2 := Up.size A1
        obtain ⟨q, hq⟩ : ∃ q, X1.heap.size = q := ⟨_, rfl⟩
        obtain ⟨X2, hX⟩ : ∃ X, (X1.alloc (.cells #[.int .i64 0, .int .i64 (-1), .int .i64 0] 71)) = X := ⟨_, rfl⟩
        rw [hX] at A2 l2
        rw [hq] at l2 b2 s2
        try rw [hX]
        try rw [hq]
        refine hK.out _ _ ⟨V.trans A2, Up.blk A2 m48⟩ (fun _ hCl => ?_)
        clear hK K hX hq
        try simp only [Act.put, List.setIfInBounds_toArray, List.set_cons_zero, List.set_cons_succ]
        refine takeG (i := 4) (d := (some 326)) (v := ?v3) rfl rfl (by as_aux_lemma => kernel_rfl) (by as_aux_lemma => kernel_rfl) (by decide) hCl (by as_aux_lemma => kernel_rfl) (by as_aux_lemma => kernel_rfl) (by as_aux_lemma => kernel_rfl) (fun _ _ _ h => h) (by rfl) ?hy3 (fun _ _ _ => trivial) (by assumption) (fun hCl' => ?_)
        case hy3 => ((intro w hSw; (try dsimp only at hSw); (try go_split_ands); go_simp); try with_reducible rfl)
        simp only [Act.put, List.setIfInBounds_toArray, List.set_cons_zero, List.set_cons_succ]
        replace hCl := hCl'; clear hCl'
        refine nextG (i := 5) (by as_aux_lemma => kernel_rfl) rfl (by rfl) hCl (fun K hK => ?_)
        go_simp
        have A3 : Up W1 (X2.alloc (.cells BCZ 44)) := (Up.alloc A2 _)
        have z3 : mblk (X2.alloc (.cells BCZ 44)) X2.heap.size = some (.cells BCZ 44 (0, 0)) := by exact blk_new _ _ _ rfl
        have b3 := blk_lt (Up.blk A2 m48)
        have s3 := Up.size A2
        have l3 := blk_keep (.cells BCZ 44) l2
        have hne := blk_lt l2
        obtain ⟨p49, hq⟩ : ∃ q, X2.heap.size = q := ⟨_, rfl⟩
        obtain ⟨X3, hX⟩ : ∃ X, (X2.alloc (.cells BCZ 44)) = X := ⟨_, rfl⟩
        rw [hX] at A3 z3 l3
        rw [hq] at z3 b3 s3 hne
        try rw [hX]
        try rw [hq]
        refine hK.out _ _ ⟨V.trans A3, Up.blk A3 m48⟩ (fun _ hCl => ?_)
        clear hK K hX hq
        try simp only [Act.put, List.setIfInBounds_toArray, List.set_cons_zero, List.set_cons_succ]
        have zf := frozB z3
        clear hCl
        refine lastG (i := 6) (by as_aux_lemma => kernel_rfl) rfl (by rfl) (by decide) (fun K hK => ?_)
        go_simp
        have hw := V.size
        have lw := blk_lt m48
        obtain ⟨Z, hZ⟩ : ∃ X, (((((((((((((((X3.setCell ⟨p49, 0, none⟩ (.int .i64 0))).setCell ⟨p49, 1, none⟩ (.int .i64 500))).setCell ⟨p49, 2, none⟩ (.int .i64 500))).setCell ⟨p49, 3, none⟩ (.int .i64 0))).setCell ⟨p49, 4, none⟩ (.int .i64 0))).setCell ⟨p49, 5, none⟩ (.int .i64 1))).setCell ⟨p49, 6, none⟩ (.slice none 0 0))).setCell ⟨p49, 7, none⟩ (.slice (some ⟨q, 0, none⟩) 1 1)) = X := ⟨_, rfl⟩
        have V3 : Up w0 Z := by rw [← hZ]; exact Up.put8 (V.trans A3) (show w0.heap.size ≤ p49 by omega) (.int .i64 0) (.int .i64 500) (.int .i64 500) (.int .i64 0) (.int .i64 0) (.int .i64 1) (.slice none 0 0) (.slice (some ⟨q, 0, none⟩) 1 1)
        have j48 : mblk Z p48 = some (.cells #[.int .i64 0, .int .i64 500, .int .i64 500, .int .i64 0, .int .i64 0] 25 (0, 0)) := by rw [← hZ]; exact (put8_other X3 (show p48 ≠ p49 by omega) (.int .i64 0) (.int .i64 500) (.int .i64 500) (.int .i64 0) (.int .i64 0) (.int .i64 1) (.slice none 0 0) (.slice (some ⟨q, 0, none⟩) 1 1)).trans (Up.blk A3 m48)
        have j49 : mblk Z p49 = some (.cells (BC 0 500 500 0 0 1 (.slice none 0 0) (.slice (some ⟨q, 0, none⟩) 1 1)) 44 (0, 0)) := by rw [← hZ]; exact put8_same z3 (.int .i64 0) (.int .i64 500) (.int .i64 500) (.int .i64 0) (.int .i64 0) (.int .i64 1) (.slice none 0 0) (.slice (some ⟨q, 0, none⟩) 1 1)
        have jq : mblk Z q = some (.cells #[.int .i64 0, .int .i64 (-1), .int .i64 0] 71 (0, 0)) := by rw [← hZ]; exact (put8_other X3 (show q ≠ p49 by omega) (.int .i64 0) (.int .i64 500) (.int .i64 500) (.int .i64 0) (.int .i64 0) (.int .i64 1) (.slice none 0 0) (.slice (some ⟨q, 0, none⟩) 1 1)).trans l3
        try rw [hZ]
        refine hK.out _ _ ?_
        clear hK K hZ
        refine doneG (by as_aux_lemma => kernel_rfl) ?_ _
        refine S.nrm_intro ?_
        exact HKey.out _ p49 q ⟨V3, j48, j49, jq⟩
      · skip
        refine (fun K hK => ?_)
        go_simp
        have A2 : Up W1 (X1.alloc (.cells BCZ 44)) := (Up.alloc A1 _)
        have z2 : mblk (X1.alloc (.cells BCZ 44)) X1.heap.size = some (.cells BCZ 44 (0, 0)) := by exact blk_new _ _ _ rfl
        have b2 := blk_lt (Up.blk A1 m48)
        have s2 := Up.size A1
        obtain ⟨p49, hq⟩ : ∃ q, X1.heap.size = q := ⟨_, rfl⟩
        obtain ⟨X2, hX⟩ : ∃ X, (X1.alloc (.cells BCZ 44)) = X := ⟨_, rfl⟩
        rw [hX] at A2 z2
        rw [hq] at z2 b2 s2
        try rw [hX]
        try rw [hq]
        refine hK.out _ _ ⟨V.trans A2, Up.blk A2 m48⟩ (fun _ hCl => ?_)
        clear hK K hX hq
        try simp only [Act.put, List.setIfInBounds_toArray, List.set_cons_zero, List.set_cons_succ]
        refine nextG (i := 3) (by as_aux_lemma => kernel_rfl) rfl (by rfl) hCl (fun K hK => ?_)
        go_simp
        have A3 : Up W1 (X2.alloc (.cells #[.int .i64 0, .int .i64 (-1), .int .i64 0] 71)) := (Up.alloc A2 _)
        have l3 : mblk (X2.alloc (.cells #[.int .i64 0, .int .i64 (-1), .int .i64 0] 71)) X2.heap.size = some (.cells #[.int .i64 0, .int .i64 (-1), .int .i64 0] 71 (0, 0)) := by exact blk_new _ _ _ rfl
        have b3 := blk_lt (Up.blk A2 m48)
        have s3 := Up.size A2
        have z3 := blk_keep (.cells #[.int .i64 0, .int .i64 (-1), .int .i64 0] 71) z2
        have hne := blk_lt z2
        obtain ⟨q, hq⟩ : ∃ q, X2.heap.size = q := ⟨_, rfl⟩
        obtain ⟨X3, hX⟩ : ∃ X, (X2.alloc (.cells #[.int .i64 0, .int .i64 (-1), .int .i64 0] 71)) = X := ⟨_, rfl⟩
        rw [hX] at A3 z3 l3
        rw [hq] at l3 b3 s3 hne
        try rw [hX]
        try rw [hq]
        refine hK.out _ _ ⟨V.trans A3, Up.blk A3 m48⟩ (fun _ hCl => ?_)
        clear hK K hX hq
        try simp only [Act.put, List.setIfInBounds_toArray, List.set_cons_zero, List.set_cons_succ]
        refine takeG (i := 4) (d := (some 326)) (v := ?v7) rfl rfl (by as_aux_lemma => kernel_rfl) (by as_aux_lemma => kernel_rfl) (by decide) hCl (by as_aux_lemma => kernel_rfl) (by as_aux_lemma => kernel_rfl) (by as_aux_lemma => kernel_rfl) (fun _ _ _ h => h) (by rfl) ?hy7 (fun _ _ _ => trivial) (by assumption) (fun hCl' => ?_)
        case hy7 => ((intro w hSw; (try dsimp only at hSw); (try go_split_ands); go_simp); try with_reducible rfl)
        simp only [Act.put, List.setIfInBounds_toArray, List.set_cons_zero, List.set_cons_succ]
        replace hCl := hCl'; clear hCl'
        have zf := frozB z3
        clear hCl
        refine lastG (i := 6) (by as_aux_lemma => kernel_rfl) rfl (by rfl) (by decide) (fun K hK => ?_)
        go_simp
        have hw := V.size
        have lw := blk_lt m48
        obtain ⟨Z, hZ⟩ : ∃ X, (((((((((((((((X3.setCell ⟨p49, 0, none⟩ (.int .i64 0))).setCell ⟨p49, 1, none⟩ (.int .i64 500))).setCell ⟨p49, 2, none⟩ (.int .i64 500))).setCell ⟨p49, 3, none⟩ (.int .i64 0))).setCell ⟨p49, 4, none⟩ (.int .i64 0))).setCell ⟨p49, 5, none⟩ (.int .i64 1))).setCell ⟨p49, 6, none⟩ (.slice none 0 0))).setCell ⟨p49, 7, none⟩ (.slice (some ⟨q, 0, none⟩) 1 1)) = X := ⟨_, rfl⟩
        have V3 : Up w0 Z := by rw [← hZ]; exact Up.put8 (V.trans A3) (show w0.heap.size ≤ p49 by omega) (.int .i64 0) (.int .i64 500) (.int .i64 500) (.int .i64 0) (.int .i64 0) (.int .i64 1) (.slice none 0 0) (.slice (some ⟨q, 0, none⟩) 1 1)
        have j48 : mblk Z p48 = some (.cells #[.int .i64 0, .int .i64 500, .int .i64 500, .int .i64 0, .int .i64 0] 25 (0, 0)) := by rw [← hZ]; exact (put8_other X3 (show p48 ≠ p49 by omega) (.int .i64 0) (.int .i64 500) (.int .i64 500) (.int .i64 0) (.int .i64 0) (.int .i64 1) (.slice none 0 0) (.slice (some ⟨q, 0, none⟩) 1 1)).trans (Up.blk A3 m48)
        have j49 : mblk Z p49 = some (.cells (BC 0 500 500 0 0 1 (.slice none 0 0) (.slice (some ⟨q, 0, none⟩) 1 1)) 44 (0, 0)) := by rw [← hZ]; exact put8_same z3 (.int .i64 0) (.int .i64 500) (.int .i64 500) (.int .i64 0) (.int .i64 0) (.int .i64 1) (.slice none 0 0) (.slice (some ⟨q, 0, none⟩) 1 1)
        have jq : mblk Z q = some (.cells #[.int .i64 0, .int .i64 (-1), .int .i64 0] 71 (0, 0)) := by rw [← hZ]; exact (put8_other X3 (show q ≠ p49 by omega) (.int .i64 0) (.int .i64 500) (.int .i64 500) (.int .i64 0) (.int .i64 0) (.int .i64 1) (.slice none 0 0) (.slice (some ⟨q, 0, none⟩) 1 1)).trans l3
        try rw [hZ]
        refine hK.out _ _ ?_
        clear hK K hZ
        refine doneG (by as_aux_lemma => kernel_rfl) ?_ _
        refine S.nrm_intro ?_
        exact HKey.out _ p49 q ⟨V3, j48, j49, jq⟩
    · skip
      refine (fun K hK => ?_)
      go_simp
      have A1 : Up W1 (W1.alloc (.cells BCZ 44)).drew := Up.drew (Up.alloc (Up.refl W1) _)
      have z1 : mblk (W1.alloc (.cells BCZ 44)).drew W1.heap.size = some (.cells BCZ 44 (0, 0)) := by rw [blk_drew]; exact blk_new _ _ _ rfl
      have b1 := blk_lt (Up.blk (Up.refl W1) m48)
      obtain ⟨p49, hqf⟩ : ∃ q, W1.heap.size = q := ⟨_, rfl⟩
      obtain ⟨X1, hX⟩ : ∃ X, (W1.alloc (.cells BCZ 44)).drew = X := ⟨_, rfl⟩
      rw [hX] at A1 z1
      rw [hqf] at z1 b1
      try rw [hX]
      try rw [hqf]
      refine hK.out _ _ ⟨V.trans A1, Up.blk A1 m48⟩ (fun _ hCl => ?_)
      clear hK K hX
      try simp only [Act.put, List.setIfInBounds_toArray, List.set_cons_zero, List.set_cons_succ]
      refine nextG (i := 1) (by as_aux_lemma => kernel_rfl) rfl (by rfl) hCl (fun K hK => ?_)
      go_simp
      refine ⟨trivial, (callsIn_wide.2 (HTo.out _)).mono ?_⟩
      rintro e2 X2 ⟨rfl, u2⟩
      have A2 := Up.trans A1 u2
      have z2 := Up.blk u2 z1
      refine hK.out _ _ ⟨V.trans A2, Up.blk A2 m48⟩ (fun _ hCl => ?_)
      clear hK K
      try simp only [Act.put, List.setIfInBounds_toArray, List.set_cons_zero, List.set_cons_succ]
      refine takeG (i := 2) (d := (some 324)) (v := ?v10) rfl rfl (by as_aux_lemma => kernel_rfl) (by as_aux_lemma => kernel_rfl) (by decide) hCl (by as_aux_lemma => kernel_rfl) (by as_aux_lemma => kernel_rfl) (by as_aux_lemma => kernel_rfl) (fun _ _ _ h => h) (by rfl) ?hy10 (fun _ _ _ => trivial) (by assumption) (fun hCl' => ?_)
      case hy10 => ((intro w hSw; (try dsimp only at hSw); (try go_split_ands); go_simp); try with_reducible rfl)
      simp only [Act.put, List.setIfInBounds_toArray, List.set_cons_zero, List.set_cons_succ]
      replace hCl := hCl'; clear hCl'
      refine nextG (i := 3) (by as_aux_lemma => kernel_rfl) rfl (by rfl) hCl (fun K hK => ?_)
      go_simp
      have A3 : Up W1 (X2.alloc (.cells #[.int .i64 0, .int .i64 (-1), .int .i64 0] 71)) := (Up.alloc A2 _)
      have l3 : mblk (X2.alloc (.cells #[.int .i64 0, .int .i64 (-1), .int .i64 0] 71)) X2.heap.size = some (.cells #[.int .i64 0, .int .i64 (-1), .int .i64 0] 71 (0, 0)) := by exact blk_new _ _ _ rfl
      have b3 := blk_lt (Up.blk A2 m48)
      have s3 := Up.size A2
      have z3 := blk_keep (.cells #[.int .i64 0, .int .i64 (-1), .int .i64 0] 71) z2
      have hne := blk_lt z2
      obtain ⟨q, hq⟩ : ∃ q, X2.heap.size = q := ⟨_, rfl⟩
      obtain ⟨X3, hX⟩ : ∃ X, (X2.alloc (.cells #[.int .i64 0, .int .i64 (-1), .int .i64 0] 71)) = X := ⟨_, rfl⟩
      rw [hX] at A3 z3 l3
      rw [hq] at l3 b3 s3 hne
      try rw [hX]
      try rw [hq]
      refine hK.out _ _ ⟨V.trans A3, Up.blk A3 m48⟩ (fun _ hCl => ?_)
      clear hK K hX hq
      try simp only [Act.put, List.setIfInBounds_toArray, List.set_cons_zero, List.set_cons_succ]
      refine takeG (i := 4) (d := (some 326)) (v := ?v12) rfl rfl (by as_aux_lemma => kernel_rfl) (by as_aux_lemma => kernel_rfl) (by decide) hCl (by as_aux_lemma => kernel_rfl) (by as_aux_lemma => kernel_rfl) (by as_aux_lemma => kernel_rfl) (fun _ _ _ h => h) (by rfl) ?hy12 (fun _ _ _ => trivial) (by assumption) (fun hCl' => ?_)
      case hy12 => ((intro w hSw; (try dsimp only at hSw); (try go_split_ands); go_simp); try with_reducible rfl)
      simp only [Act.put, List.setIfInBounds_toArray, List.set_cons_zero, List.set_cons_succ]
      replace hCl := hCl'; clear hCl'
      have zf := frozB z3
      clear hCl
      refine lastG (i := 6) (by as_aux_lemma => kernel_rfl) rfl (by rfl) (by decide) (fun K hK => ?_)
      go_simp
      have hw := V.size
      have lw := blk_lt m48
      obtain ⟨Z, hZ⟩ : ∃ X, (((((((((((((((X3.setCell ⟨p49, 0, none⟩ (.int .i64 0))).setCell ⟨p49, 1, none⟩ (.int .i64 500))).setCell ⟨p49, 2, none⟩ (.int .i64 500))).setCell ⟨p49, 3, none⟩ (.int .i64 0))).setCell ⟨p49, 4, none⟩ (.int .i64 0))).setCell ⟨p49, 5, none⟩ (.int .i64 1))).setCell ⟨p49, 6, none⟩ (.slice none 0 0))).setCell ⟨p49, 7, none⟩ (.slice (some ⟨q, 0, none⟩) 1 1)) = X := ⟨_, rfl⟩
      have V3 : Up w0 Z := by rw [← hZ]; exact Up.put8 (V.trans A3) (show w0.heap.size ≤ p49 by omega) (.int .i64 0) (.int .i64 500) (.int .i64 500) (.int .i64 0) (.int .i64 0) (.int .i64 1) (.slice none 0 0) (.slice (some ⟨q, 0, none⟩) 1 1)
      have j48 : mblk Z p48 = some (.cells #[.int .i64 0, .int .i64 500, .int .i64 500, .int .i64 0, .int .i64 0] 25 (0, 0)) := by rw [← hZ]; exact (put8_other X3 (show p48 ≠ p49 by omega) (.int .i64 0) (.int .i64 500) (.int .i64 500) (.int .i64 0) (.int .i64 0) (.int .i64 1) (.slice none 0 0) (.slice (some ⟨q, 0, none⟩) 1 1)).trans (Up.blk A3 m48)
      have j49 : mblk Z p49 = some (.cells (BC 0 500 500 0 0 1 (.slice none 0 0) (.slice (some ⟨q, 0, none⟩) 1 1)) 44 (0, 0)) := by rw [← hZ]; exact put8_same z3 (.int .i64 0) (.int .i64 500) (.int .i64 500) (.int .i64 0) (.int .i64 0) (.int .i64 1) (.slice none 0 0) (.slice (some ⟨q, 0, none⟩) 1 1)
      have jq : mblk Z q = some (.cells #[.int .i64 0, .int .i64 (-1), .int .i64 0] 71 (0, 0)) := by rw [← hZ]; exact (put8_other X3 (show q ≠ p49 by omega) (.int .i64 0) (.int .i64 500) (.int .i64 500) (.int .i64 0) (.int .i64 0) (.int .i64 1) (.slice none 0 0) (.slice (some ⟨q, 0, none⟩) 1 1)).trans l3
      try rw [hZ]
      refine hK.out _ _ ?_
      clear hK K hZ
      refine doneG (by as_aux_lemma => kernel_rfl) ?_ _
      refine S.nrm_intro ?_
      exact HKey.out _ p49 q ⟨V3, j48, j49, jq⟩
  intro W2 p49 q ⟨V2, j48, j49, jq⟩
  clear V m48
  have LQ2 : Lks W2 (.slice (some ⟨q, 0, none⟩) 1 1) [(0, -1, 0)] := ⟨_, 1, rfl, Nat.le_refl _, by simp, fun _ => ⟨q, 0, rfl, blk_lt jq, fun j hj => by
    obtain rfl : j = 0 := by simp at hj; omega
    exact ⟨cellB jq _, cellB jq _, cellB jq _⟩⟩⟩
  clear jq
  have LQ3 := Lib.hid (fun w' (u : Up W2 w') => LQ2.up u)
  have UU := Up.refl W2
  have HV := Lib.hid V2
  clear V2 LQ2
  go_wp2_with fail
  refine (kn_F1 _).mono ?_
  rintro e w3 ⟨rfl, u⟩
  replace j48 := u.blk j48
  replace j49 := u.blk j49
  replace UU := UU.trans u
  clear u
  go_wp2_with fail
  refine (kn_P1 _).mono ?_
  rintro e w4 ⟨rfl, u⟩
  replace j48 := u.blk j48
  replace j49 := u.blk j49
  replace UU := UU.trans u
  clear u
  go_wp2_with fail
  refine (kn_M1 (LQ3.out _ UU)).mono ?_
  rintro e w5 ⟨rfl, u⟩
  replace j48 := u.blk j48
  replace UU := UU.trans u
  clear u j49 LQ3
  go_wp2_with fail
  refine (HRu.out _).mono ?_
  rintro e w6 ⟨rfl, u⟩
  have I6 := ints_lit (w := w6) (xs := [4, 8, 8]) (cs := #[.int .i64 4, .int .i64 8, .int .i64 8]) w6.heap.size rfl (by decide) (fun j hj => by
    have : j = 0 ∨ j = 1 ∨ j = 2 := by have : j < 3 := hj; omega
    rcases this with rfl | rfl | rfl <;> rfl)
  replace j48 := blk_keep (.cells #[.int .i64 4, .int .i64 8, .int .i64 8] 3) (u.blk j48)
  replace UU := (UU.trans u).alloc (.cells #[.int .i64 4, .int .i64 8, .int .i64 8] 3)
  clear u
  go_wp2_with fail
  refine (kn_I1 I6).mono ?_
  rintro e w7 ⟨rfl, u⟩
  replace j48 := u.blk j48
  replace UU := UU.trans u
  clear u I6
  go_wp2_with fail
  refine (HRu.out _).mono ?_
  rintro e w8 ⟨rfl, u⟩
  replace j48 := u.blk j48
  replace UU := UU.trans u
  clear u
  go_wp2_with fail
  refine (kn_I2 _).mono ?_
  rintro e w9 ⟨rfl, u⟩
  replace j48 := u.blk j48
  replace UU := UU.trans u
  clear u
  go_wp2_with fail
  refine (kn_F2 _).mono ?_
  rintro e w10 ⟨rfl, u⟩
  replace UU := UU.trans u
  clear u j48
  go_wp2_with fail
  refine (HRu.out _).mono ?_
  rintro e w11 ⟨rfl, u⟩
  replace UU := UU.trans u
  clear u
  go_wp2_with fail
  refine (kn_P2 _).mono ?_
  rintro e w12 ⟨ap, cp, rfl, u⟩
  replace UU := UU.trans u
  clear u
  go_wp2_with fail
  refine (l_book_nil _).mono ?_
  rintro e w13 ⟨gb, gl, rfl, u, IS, IL⟩
  replace UU := UU.trans u
  clear u
  go_wp2_with fail
  refine (kn_E1 IS IL).mono ?_
  rintro e w14 ⟨rfl, u⟩
  have m54 := blk_new w14 (.cells #[.int .i64 (-5), .int .i64 12] 23) _ rfl
  replace UU := (UU.trans u).alloc (.cells #[.int .i64 (-5), .int .i64 12] 23)
  clear u IS IL
  obtain ⟨p54, hp54⟩ : ∃ q, w14.heap.size = q := ⟨_, rfl⟩
  obtain ⟨W14, hW14⟩ : ∃ W, w14.alloc (.cells #[.int .i64 (-5), .int .i64 12] 23) = W := ⟨_, rfl⟩
  rw [hp54] at m54
  rw [hW14] at m54 UU
  go_wp2_with fail
  try rw [hW14]
  try rw [hp54]
  clear hW14 hp54
  refine (HRu.out _).mono ?_
  rintro e w15 ⟨rfl, u⟩
  replace m54 := u.blk m54
  replace UU := UU.trans u
  clear u
  go_wp2_with fail
  refine (kn_S1 _).mono ?_
  rintro e w16 ⟨sv, rfl, u, IS⟩
  replace m54 := u.blk m54
  replace UU := UU.trans u
  clear u
  go_wp2_with fail
  dsimp only [List.append]
  have HT5 := Lib.hid (fun w => B_To_any (-5) 12 w)
  have HIS := Lib.hid (fun w' (u : Up w16 w') => IS.up u)
  have HUU := Lib.hid UU
  clear IS UU
  refine wp_region_held_drew (S := fun w' => Up w16 w' ∧ mblk w' p54 = some (.cells #[.int .i64 (-5), .int .i64 12] 23 (0, 0))) (by as_aux_lemma => kernel_rfl) ⟨(Up.refl w16).drew, by rw [blk_drew]; exact m54⟩ (fun hHeld => ?_)
  clear m54
  refine takeH (i := 0) (d := (some 374)) (v := ?v14) rfl rfl (by as_aux_lemma => kernel_rfl) (by as_aux_lemma => kernel_rfl) (by as_aux_lemma => kernel_rfl) (fun _ _ _ h => h) (by rfl) ?hy14 (by assumption) ?_
  case hy14 => ((intro w hSw; (try dsimp only at hSw); (try go_split_ands); go_simp); try with_reducible rfl)
  simp only [Act.put, List.setIfInBounds_toArray]; dsimp only [List.set_cons_zero, List.set_cons_succ]
  refine takeH (i := 1) (d := (some 375)) (v := ?v15) rfl rfl (by as_aux_lemma => kernel_rfl) (by as_aux_lemma => kernel_rfl) (by as_aux_lemma => kernel_rfl) (fun _ _ _ h => h) (by rfl) ?hy15 (by assumption) ?_
  case hy15 => ((intro w hSw; (try dsimp only at hSw); (try go_split_ands); go_simp); try with_reducible rfl)
  simp only [Act.put, List.setIfInBounds_toArray]; dsimp only [List.set_cons_zero, List.set_cons_succ]
  refine takeH (i := 2) (d := (some 376)) (v := ?v16) rfl rfl (by as_aux_lemma => kernel_rfl) (by as_aux_lemma => kernel_rfl) (by as_aux_lemma => kernel_rfl) (fun _ _ _ h => h) (by rfl) ?hy16 (by assumption) ?_
  case hy16 => ((intro w hSw; (try dsimp only at hSw); (try go_split_ands); go_simp); try with_reducible rfl)
  simp only [Act.put, List.setIfInBounds_toArray]; dsimp only [List.set_cons_zero, List.set_cons_succ]
  refine takeH (i := 3) (d := (some 377)) (v := ?v17) rfl rfl (by as_aux_lemma => kernel_rfl) (by as_aux_lemma => kernel_rfl) (by as_aux_lemma => kernel_rfl) (fun _ _ _ h => h) (by rfl) ?hy17 (by assumption) ?_
  case hy17 => ((intro w hSw; (try dsimp only at hSw); (try go_split_ands); go_simp); try with_reducible rfl)
  simp only [Act.put, List.setIfInBounds_toArray]; dsimp only [List.set_cons_zero, List.set_cons_succ]
  refine takeH (i := 4) (d := (some 378)) (v := ?v18) rfl rfl (by as_aux_lemma => kernel_rfl) (by as_aux_lemma => kernel_rfl) (by as_aux_lemma => kernel_rfl) (fun _ _ _ h => h) (by rfl) ?hy18 (by assumption) ?_
  case hy18 => ((intro w hSw; (try dsimp only at hSw); (try go_split_ands); go_simp); try with_reducible rfl)
  simp only [Act.put, List.setIfInBounds_toArray]; dsimp only [List.set_cons_zero, List.set_cons_succ]
  refine takeH (i := 5) (d := (some 379)) (v := ?v19) rfl rfl (by as_aux_lemma => kernel_rfl) (by as_aux_lemma => kernel_rfl) (by as_aux_lemma => kernel_rfl) (fun _ _ _ h => h) (by rfl) ?hy19 (by assumption) ?_
  case hy19 => ((intro w hSw; (try dsimp only at hSw); (try go_split_ands); go_simp); try with_reducible rfl)
  simp only [Act.put, List.setIfInBounds_toArray]; dsimp only [List.set_cons_zero, List.set_cons_succ]
  refine takeH (i := 6) (d := (some 380)) (v := ?v20) rfl rfl (by as_aux_lemma => kernel_rfl) (by as_aux_lemma => kernel_rfl) (by as_aux_lemma => kernel_rfl) (fun _ _ _ h => h) (by rfl) ?hy20 (by assumption) ?_
  case hy20 => ((intro w hSw; (try dsimp only at hSw); (try go_split_ands); go_simp); try with_reducible rfl)
  simp only [Act.put, List.setIfInBounds_toArray]; dsimp only [List.set_cons_zero, List.set_cons_succ]
  refine takeH (i := 7) (d := (some 381)) (v := ?v21) rfl rfl (by as_aux_lemma => kernel_rfl) (by as_aux_lemma => kernel_rfl) (by as_aux_lemma => kernel_rfl) (fun _ _ _ h => h) (by rfl) ?hy21 (by assumption) ?_
  case hy21 => ((intro w hSw; (try dsimp only at hSw); (try go_split_ands); go_simp); try with_reducible rfl)
  simp only [Act.put, List.setIfInBounds_toArray]; dsimp only [List.set_cons_zero, List.set_cons_succ]
  refine takeH (i := 8) (d := (some 382)) (v := ?v22) rfl rfl (by as_aux_lemma => kernel_rfl) (by as_aux_lemma => kernel_rfl) (by as_aux_lemma => kernel_rfl) (fun _ _ _ h => h) (by rfl) ?hy22 (by assumption) ?_
  case hy22 => ((intro w hSw; (try dsimp only at hSw); (try go_split_ands); go_simp); try with_reducible rfl)
  simp only [Act.put, List.setIfInBounds_toArray]; dsimp only [List.set_cons_zero, List.set_cons_succ]
  refine takeH (i := 9) (d := (some 383)) (v := ?v23) rfl rfl (by as_aux_lemma => kernel_rfl) (by as_aux_lemma => kernel_rfl) (by as_aux_lemma => kernel_rfl) (fun _ _ _ h => h) (by rfl) ?hy23 (by assumption) ?_
  case hy23 => ((intro w hSw; (try dsimp only at hSw); (try go_split_ands); go_simp); try with_reducible rfl)
  simp only [Act.put, List.setIfInBounds_toArray]; dsimp only [List.set_cons_zero, List.set_cons_succ]
  refine takeH (i := 10) (d := (some 384)) (v := ?v24) rfl rfl (by as_aux_lemma => kernel_rfl) (by as_aux_lemma => kernel_rfl) (by as_aux_lemma => kernel_rfl) (fun _ _ _ h => h) (by rfl) ?hy24 (by assumption) ?_
  case hy24 => ((intro w hSw; (try dsimp only at hSw); (try go_split_ands); go_simp); try with_reducible rfl)
  simp only [Act.put, List.setIfInBounds_toArray]; dsimp only [List.set_cons_zero, List.set_cons_succ]
  refine takeH (i := 11) (d := (some 385)) (v := ?v25) rfl rfl (by as_aux_lemma => kernel_rfl) (by as_aux_lemma => kernel_rfl) (by as_aux_lemma => kernel_rfl) (fun _ _ _ h => h) (by rfl) ?hy25 (by assumption) ?_
  case hy25 => ((intro w hSw; (try dsimp only at hSw); (try go_split_ands); go_simp); try with_reducible rfl)
  simp only [Act.put, List.setIfInBounds_toArray]; dsimp only [List.set_cons_zero, List.set_cons_succ]
  refine takeH (i := 12) (d := (some 386)) (v := ?v26) rfl rfl (by as_aux_lemma => kernel_rfl) (by as_aux_lemma => kernel_rfl) (by as_aux_lemma => kernel_rfl) (fun _ _ _ h => h) (by rfl) ?hy26 (by assumption) ?_
  case hy26 => ((intro w hSw; (try dsimp only at hSw); (try go_split_ands); go_simp); try with_reducible rfl)
  simp only [Act.put, List.setIfInBounds_toArray]; dsimp only [List.set_cons_zero, List.set_cons_succ]
  refine takeH (i := 13) (d := (some 387)) (v := ?v27) rfl rfl (by as_aux_lemma => kernel_rfl) (by as_aux_lemma => kernel_rfl) (by as_aux_lemma => kernel_rfl) (fun _ _ _ h => h) (by rfl) ?hy27 (by assumption) ?_
  case hy27 => ((intro w hSw; (try dsimp only at hSw); (try go_split_ands); go_simp); try with_reducible rfl)
  simp only [Act.put, List.setIfInBounds_toArray]; dsimp only [List.set_cons_zero, List.set_cons_succ]
  refine takeH (i := 14) (d := (some 388)) (v := ?v28) rfl rfl (by as_aux_lemma => kernel_rfl) (by as_aux_lemma => kernel_rfl) (by as_aux_lemma => kernel_rfl) (fun _ _ _ h => h) (by rfl) ?hy28 (by assumption) ?_
  case hy28 => ((intro w hSw; (try dsimp only at hSw); (try go_split_ands); go_simp); try with_reducible rfl)
  simp only [Act.put, List.setIfInBounds_toArray]; dsimp only [List.set_cons_zero, List.set_cons_succ]
  refine takeH (i := 15) (d := (some 389)) (v := ?v29) rfl rfl (by as_aux_lemma => kernel_rfl) (by as_aux_lemma => kernel_rfl) (by as_aux_lemma => kernel_rfl) (fun _ _ _ h => h) (by rfl) ?hy29 (by assumption) ?_
  case hy29 => ((intro w hSw; (try dsimp only at hSw); (try go_split_ands); go_simp); try with_reducible rfl)
  simp only [Act.put, List.setIfInBounds_toArray]; dsimp only [List.set_cons_zero, List.set_cons_succ]
  refine takeH (i := 16) (d := (some 390)) (v := ?v30) rfl rfl (by as_aux_lemma => kernel_rfl) (by as_aux_lemma => kernel_rfl) (by as_aux_lemma => kernel_rfl) (fun _ _ _ h => h) (by rfl) ?hy30 (by assumption) ?_
  case hy30 => ((intro w hSw; (try dsimp only at hSw); (try go_split_ands); go_simp); try with_reducible rfl)
  simp only [Act.put, List.setIfInBounds_toArray]; dsimp only [List.set_cons_zero, List.set_cons_succ]
  refine takeH (i := 17) (d := (some 391)) (v := ?v31) rfl rfl (by as_aux_lemma => kernel_rfl) (by as_aux_lemma => kernel_rfl) (by as_aux_lemma => kernel_rfl) (fun _ _ _ h => h) (by rfl) ?hy31 (by assumption) ?_
  case hy31 => ((intro w hSw; (try dsimp only at hSw); (try go_split_ands); go_simp); try with_reducible rfl)
  simp only [Act.put, List.setIfInBounds_toArray]; dsimp only [List.set_cons_zero, List.set_cons_succ]
  refine takeH (i := 18) (d := (some 392)) (v := ?v32) rfl rfl (by as_aux_lemma => kernel_rfl) (by as_aux_lemma => kernel_rfl) (by as_aux_lemma => kernel_rfl) (fun _ _ _ h => h) (by rfl) ?hy32 (by assumption) ?_
  case hy32 => ((intro w hSw; (try dsimp only at hSw); (try go_split_ands); go_simp); try with_reducible rfl)
  simp only [Act.put, List.setIfInBounds_toArray]; dsimp only [List.set_cons_zero, List.set_cons_succ]
  refine takeH (i := 19) (d := (some 393)) (v := ?v33) rfl rfl (by as_aux_lemma => kernel_rfl) (by as_aux_lemma => kernel_rfl) (by as_aux_lemma => kernel_rfl) (fun _ _ _ h => h) (by rfl) ?hy33 (by assumption) ?_
  case hy33 => ((intro w hSw; (try dsimp only at hSw); (try go_split_ands); go_simp); try with_reducible rfl)
  simp only [Act.put, List.setIfInBounds_toArray]; dsimp only [List.set_cons_zero, List.set_cons_succ]
  refine takeH (i := 20) (d := (some 394)) (v := ?v34) rfl rfl (by as_aux_lemma => kernel_rfl) (by as_aux_lemma => kernel_rfl) (by as_aux_lemma => kernel_rfl) (fun _ _ _ h => h) (by rfl) ?hy34 (by assumption) ?_
  case hy34 => ((intro w hSw; (try dsimp only at hSw); (try go_split_ands); go_simp); try with_reducible rfl)
  simp only [Act.put, List.setIfInBounds_toArray]; dsimp only [List.set_cons_zero, List.set_cons_succ]
  refine takeH (i := 21) (d := (some 395)) (v := ?v35) rfl rfl (by as_aux_lemma => kernel_rfl) (by as_aux_lemma => kernel_rfl) (by as_aux_lemma => kernel_rfl) (fun _ _ _ h => h) (by rfl) ?hy35 (by assumption) ?_
  case hy35 => ((intro w hSw; (try dsimp only at hSw); (try go_split_ands); go_simp); try with_reducible rfl)
  simp only [Act.put, List.setIfInBounds_toArray]; dsimp only [List.set_cons_zero, List.set_cons_succ]
  refine takeH (i := 22) (d := (some 396)) (v := ?v36) rfl rfl (by as_aux_lemma => kernel_rfl) (by as_aux_lemma => kernel_rfl) (by as_aux_lemma => kernel_rfl) (fun _ _ _ h => h) (by rfl) ?hy36 (by assumption) ?_
  case hy36 => ((intro w hSw; (try dsimp only at hSw); (try go_split_ands); go_simp); try with_reducible rfl)
  simp only [Act.put, List.setIfInBounds_toArray]; dsimp only [List.set_cons_zero, List.set_cons_succ]
  refine takeH (i := 23) (d := (some 397)) (v := ?v37) rfl rfl (by as_aux_lemma => kernel_rfl) (by as_aux_lemma => kernel_rfl) (by as_aux_lemma => kernel_rfl) (fun _ _ _ h => h) (by rfl) ?hy37 (by assumption) ?_
  case hy37 => ((intro w hSw; (try dsimp only at hSw); (try go_split_ands); go_simp); try with_reducible rfl)
  simp only [Act.put, List.setIfInBounds_toArray]; dsimp only [List.set_cons_zero, List.set_cons_succ]
  refine takeH (i := 24) (d := (some 398)) (v := ?v38) rfl rfl (by as_aux_lemma => kernel_rfl) (by as_aux_lemma => kernel_rfl) (by as_aux_lemma => kernel_rfl) (fun _ _ _ h => h) (by rfl) ?hy38 (by assumption) ?_
  case hy38 => ((intro w hSw; (try dsimp only at hSw); (try go_split_ands); go_simp); try with_reducible rfl)
  simp only [Act.put, List.setIfInBounds_toArray]; dsimp only [List.set_cons_zero, List.set_cons_succ]
  refine takeH (i := 25) (d := (some 399)) (v := ?v39) rfl rfl (by as_aux_lemma => kernel_rfl) (by as_aux_lemma => kernel_rfl) (by as_aux_lemma => kernel_rfl) (fun _ _ _ h => h) (by rfl) ?hy39 (by assumption) ?_
  case hy39 => ((intro w hSw; (try dsimp only at hSw); (try go_split_ands); go_simp); try with_reducible rfl)
  simp only [Act.put, List.setIfInBounds_toArray]; dsimp only [List.set_cons_zero, List.set_cons_succ]
  refine takeH (i := 26) (d := (some 400)) (v := ?v40) rfl rfl (by as_aux_lemma => kernel_rfl) (by as_aux_lemma => kernel_rfl) (by as_aux_lemma => kernel_rfl) (fun _ _ _ h => h) (by rfl) ?hy40 (by assumption) ?_
  case hy40 => ((intro w hSw; (try dsimp only at hSw); (try go_split_ands); go_simp); try with_reducible rfl)
  simp only [Act.put, List.setIfInBounds_toArray]; dsimp only [List.set_cons_zero, List.set_cons_succ]
  refine takeH (i := 27) (d := (some 401)) (v := ?v41) rfl rfl (by as_aux_lemma => kernel_rfl) (by as_aux_lemma => kernel_rfl) (by as_aux_lemma => kernel_rfl) (fun _ _ _ h => h) (by rfl) ?hy41 (by assumption) ?_
  case hy41 => ((intro w hSw; (try dsimp only at hSw); (try go_split_ands); go_simp); try with_reducible rfl)
  simp only [Act.put, List.setIfInBounds_toArray]; dsimp only [List.set_cons_zero, List.set_cons_succ]
  refine takeH (i := 28) (d := (some 402)) (v := ?v42) rfl rfl (by as_aux_lemma => kernel_rfl) (by as_aux_lemma => kernel_rfl) (by as_aux_lemma => kernel_rfl) (fun _ _ _ h => h) (by rfl) ?hy42 (by assumption) ?_
  case hy42 => ((intro w hSw; (try dsimp only at hSw); (try go_split_ands); go_simp); try with_reducible rfl)
  simp only [Act.put, List.setIfInBounds_toArray]; dsimp only [List.set_cons_zero, List.set_cons_succ]
  refine takeH (i := 29) (d := (some 403)) (v := ?v43) rfl rfl (by as_aux_lemma => kernel_rfl) (by as_aux_lemma => kernel_rfl) (by as_aux_lemma => kernel_rfl) (fun _ _ _ h => h) (by rfl) ?hy43 (by assumption) ?_
  case hy43 => ((intro w hSw; (try dsimp only at hSw); (try go_split_ands); go_simp); try with_reducible rfl)
  simp only [Act.put, List.setIfInBounds_toArray]; dsimp only [List.set_cons_zero, List.set_cons_succ]
  refine takeH (i := 30) (d := (some 404)) (v := ?v44) rfl rfl (by as_aux_lemma => kernel_rfl) (by as_aux_lemma => kernel_rfl) (by as_aux_lemma => kernel_rfl) (fun _ _ _ h => h) (by rfl) ?hy44 (by assumption) ?_
  case hy44 => ((intro w hSw; (try dsimp only at hSw); (try go_split_ands); go_simp); try with_reducible rfl)
  simp only [Act.put, List.setIfInBounds_toArray]; dsimp only [List.set_cons_zero, List.set_cons_succ]
  refine takeH (i := 31) (d := (some 405)) (v := ?v45) rfl rfl (by as_aux_lemma => kernel_rfl) (by as_aux_lemma => kernel_rfl) (by as_aux_lemma => kernel_rfl) (fun _ _ _ h => h) (by rfl) ?hy45 (by assumption) ?_
  case hy45 => ((intro w hSw; (try dsimp only at hSw); (try go_split_ands); go_simp); try with_reducible rfl)
  simp only [Act.put, List.setIfInBounds_toArray]; dsimp only [List.set_cons_zero, List.set_cons_succ]
  refine takeH (i := 32) (d := (some 406)) (v := ?v46) rfl rfl (by as_aux_lemma => kernel_rfl) (by as_aux_lemma => kernel_rfl) (by as_aux_lemma => kernel_rfl) (fun _ _ _ h => h) (by rfl) ?hy46 (by assumption) ?_
  case hy46 => ((intro w hSw; (try dsimp only at hSw); (try go_split_ands); go_simp); try with_reducible rfl)
  simp only [Act.put, List.setIfInBounds_toArray]; dsimp only [List.set_cons_zero, List.set_cons_succ]
  refine takeH (i := 33) (d := (some 407)) (v := ?v47) rfl rfl (by as_aux_lemma => kernel_rfl) (by as_aux_lemma => kernel_rfl) (by as_aux_lemma => kernel_rfl) (fun _ _ _ h => h) (by rfl) ?hy47 (by assumption) ?_
  case hy47 => ((intro w hSw; (try dsimp only at hSw); (try go_split_ands); go_simp); try with_reducible rfl)
  simp only [Act.put, List.setIfInBounds_toArray]; dsimp only [List.set_cons_zero, List.set_cons_succ]
  refine takeH (i := 34) (d := (some 408)) (v := ?v48) rfl rfl (by as_aux_lemma => kernel_rfl) (by as_aux_lemma => kernel_rfl) (by as_aux_lemma => kernel_rfl) (fun _ _ _ h => h) (by rfl) ?hy48 (by assumption) ?_
  case hy48 => ((intro w hSw; (try dsimp only at hSw); (try go_split_ands); go_simp); try with_reducible rfl)
  simp only [Act.put, List.setIfInBounds_toArray]; dsimp only [List.set_cons_zero, List.set_cons_succ]
  refine takeH (i := 35) (d := (some 409)) (v := ?v49) rfl rfl (by as_aux_lemma => kernel_rfl) (by as_aux_lemma => kernel_rfl) (by as_aux_lemma => kernel_rfl) (fun _ _ _ h => h) (by rfl) ?hy49 (by assumption) ?_
  case hy49 => ((intro w hSw; (try dsimp only at hSw); (try go_split_ands); go_simp); try with_reducible rfl)
  simp only [Act.put, List.setIfInBounds_toArray]; dsimp only [List.set_cons_zero, List.set_cons_succ]
  refine takeH (i := 36) (d := (some 410)) (v := ?v50) rfl rfl (by as_aux_lemma => kernel_rfl) (by as_aux_lemma => kernel_rfl) (by as_aux_lemma => kernel_rfl) (fun _ _ _ h => h) (by rfl) ?hy50 (by assumption) ?_
  case hy50 => ((intro w hSw; (try dsimp only at hSw); (try go_split_ands); go_simp); try with_reducible rfl)
  simp only [Act.put, List.setIfInBounds_toArray]; dsimp only [List.set_cons_zero, List.set_cons_succ]
  refine takeH (i := 37) (d := (some 411)) (v := ?v51) rfl rfl (by as_aux_lemma => kernel_rfl) (by as_aux_lemma => kernel_rfl) (by as_aux_lemma => kernel_rfl) (fun _ _ _ h => h) (by rfl) ?hy51 (by assumption) ?_
  case hy51 => ((intro w hSw; (try dsimp only at hSw); (try go_split_ands); go_simp); try with_reducible rfl)
  simp only [Act.put, List.setIfInBounds_toArray]; dsimp only [List.set_cons_zero, List.set_cons_succ]
  refine takeH (i := 38) (d := (some 412)) (v := ?v52) rfl rfl (by as_aux_lemma => kernel_rfl) (by as_aux_lemma => kernel_rfl) (by as_aux_lemma => kernel_rfl) (fun _ _ _ h => h) (by rfl) ?hy52 (by assumption) ?_
  case hy52 => ((intro w hSw; (try dsimp only at hSw); (try go_split_ands); go_simp); try with_reducible rfl)
  simp only [Act.put, List.setIfInBounds_toArray]; dsimp only [List.set_cons_zero, List.set_cons_succ]
  refine takeH (i := 39) (d := (some 413)) (v := ?v53) rfl rfl (by as_aux_lemma => kernel_rfl) (by as_aux_lemma => kernel_rfl) (by as_aux_lemma => kernel_rfl) (fun _ _ _ h => h) (by rfl) ?hy53 (by assumption) ?_
  case hy53 => ((intro w hSw; (try dsimp only at hSw); (try go_split_ands); go_simp); try with_reducible rfl)
  simp only [Act.put, List.setIfInBounds_toArray]; dsimp only [List.set_cons_zero, List.set_cons_succ]
  refine takeH (i := 40) (d := (some 414)) (v := ?v54) rfl rfl (by as_aux_lemma => kernel_rfl) (by as_aux_lemma => kernel_rfl) (by as_aux_lemma => kernel_rfl) (fun _ _ _ h => h) (by rfl) ?hy54 (by assumption) ?_
  case hy54 => ((intro w hSw; (try dsimp only at hSw); (try go_split_ands); go_simp); try with_reducible rfl)
  simp only [Act.put, List.setIfInBounds_toArray]; dsimp only [List.set_cons_zero, List.set_cons_succ]
  refine takeH (i := 41) (d := (some 415)) (v := ?v55) rfl rfl (by as_aux_lemma => kernel_rfl) (by as_aux_lemma => kernel_rfl) (by as_aux_lemma => kernel_rfl) (fun _ _ _ h => h) (by rfl) ?hy55 (by assumption) ?_
  case hy55 => ((intro w hSw; (try dsimp only at hSw); (try go_split_ands); go_simp); try with_reducible rfl)
  simp only [Act.put, List.setIfInBounds_toArray]; dsimp only [List.set_cons_zero, List.set_cons_succ]
  refine takeH (i := 42) (d := (some 416)) (v := ?v56) rfl rfl (by as_aux_lemma => kernel_rfl) (by as_aux_lemma => kernel_rfl) (by as_aux_lemma => kernel_rfl) (fun _ _ _ h => h) (by rfl) ?hy56 (by assumption) ?_
  case hy56 => ((intro w hSw; (try dsimp only at hSw); (try go_split_ands); go_simp); try with_reducible rfl)
  simp only [Act.put, List.setIfInBounds_toArray]; dsimp only [List.set_cons_zero, List.set_cons_succ]
  refine takeH (i := 43) (d := (some 417)) (v := ?v57) rfl rfl (by as_aux_lemma => kernel_rfl) (by as_aux_lemma => kernel_rfl) (by as_aux_lemma => kernel_rfl) (fun _ _ _ h => h) (by rfl) ?hy57 (by assumption) ?_
  case hy57 => ((intro w hSw; (try dsimp only at hSw); (try go_split_ands); go_simp); try with_reducible rfl)
  simp only [Act.put, List.setIfInBounds_toArray]; dsimp only [List.set_cons_zero, List.set_cons_succ]
  refine takeH (i := 44) (d := (some 418)) (v := ?v58) rfl rfl (by as_aux_lemma => kernel_rfl) (by as_aux_lemma => kernel_rfl) (by as_aux_lemma => kernel_rfl) (fun _ _ _ h => h) (by rfl) ?hy58 (by assumption) ?_
  case hy58 => ((intro w hSw; (try dsimp only at hSw); (try go_split_ands); go_simp); try with_reducible rfl)
  simp only [Act.put, List.setIfInBounds_toArray]; dsimp only [List.set_cons_zero, List.set_cons_succ]
  refine takeH (i := 45) (d := (some 419)) (v := ?v59) rfl rfl (by as_aux_lemma => kernel_rfl) (by as_aux_lemma => kernel_rfl) (by as_aux_lemma => kernel_rfl) (fun _ _ _ h => h) (by rfl) ?hy59 (by assumption) ?_
  case hy59 => ((intro w hSw; (try dsimp only at hSw); (try go_split_ands); go_simp); try with_reducible rfl)
  simp only [Act.put, List.setIfInBounds_toArray]; dsimp only [List.set_cons_zero, List.set_cons_succ]
  refine takeH (i := 46) (d := (some 420)) (v := ?v60) rfl rfl (by as_aux_lemma => kernel_rfl) (by as_aux_lemma => kernel_rfl) (by as_aux_lemma => kernel_rfl) (fun _ _ _ h => h) (by rfl) ?hy60 (by assumption) ?_
  case hy60 => ((intro w hSw; (try dsimp only at hSw); (try go_split_ands); go_simp); try with_reducible rfl)
  simp only [Act.put, List.setIfInBounds_toArray]; dsimp only [List.set_cons_zero, List.set_cons_succ]
  refine takeH (i := 47) (d := (some 421)) (v := ?v61) rfl rfl (by as_aux_lemma => kernel_rfl) (by as_aux_lemma => kernel_rfl) (by as_aux_lemma => kernel_rfl) (fun _ _ _ h => h) (by rfl) ?hy61 (by assumption) ?_
  case hy61 => ((intro w hSw; (try dsimp only at hSw); (try go_split_ands); go_simp); try with_reducible rfl)
  simp only [Act.put, List.setIfInBounds_toArray]; dsimp only [List.set_cons_zero, List.set_cons_succ]
  refine wpAnyH_ready (rs := [48]) (by as_aux_lemma => kernel_rfl) (by simp) ?_
  refine AllReadyH.cons rfl (fun K hK => ?_) AllReadyH.nil
  go_simp
  refine (HT5.out _).mono ?_
  rintro e w17 ⟨rfl, u⟩
  go_wp2_with fail
  refine hK.out _ _ ⟨hHeld.1.trans u, u.blk hHeld.2⟩ (fun hHeld => ?_)
  clear hK K u
  refine takeH (i := 49) (d := (some 423)) (v := ?v63) rfl rfl (by as_aux_lemma => kernel_rfl) (by as_aux_lemma => kernel_rfl) (by as_aux_lemma => kernel_rfl) (fun _ _ _ h => h) (by rfl) ?hy63 (by assumption) ?_
  case hy63 => ((intro w hSw; (try dsimp only at hSw); (try go_split_ands); go_simp); try with_reducible rfl)
  simp only [Act.put, List.setIfInBounds_toArray]; dsimp only [List.set_cons_zero, List.set_cons_succ]
  refine takeH (i := 50) (d := (some 424)) (v := ?v64) rfl rfl (by as_aux_lemma => kernel_rfl) (by as_aux_lemma => kernel_rfl) (by as_aux_lemma => kernel_rfl) (fun _ _ _ h => h) (by rfl) ?hy64 (by assumption) ?_
  case hy64 => ((intro w hSw; (try dsimp only at hSw); (try go_split_ands); go_simp); try with_reducible rfl)
  simp only [Act.put, List.setIfInBounds_toArray]; dsimp only [List.set_cons_zero, List.set_cons_succ]
  refine takeH (i := 51) (d := (some 425)) (v := ?v65) rfl rfl (by as_aux_lemma => kernel_rfl) (by as_aux_lemma => kernel_rfl) (by as_aux_lemma => kernel_rfl) (fun _ _ _ h => h) (by rfl) ?hy65 (by assumption) ?_
  case hy65 => ((intro w hSw; (try dsimp only at hSw); (try go_split_ands); go_simp); try with_reducible rfl)
  simp only [Act.put, List.setIfInBounds_toArray]; dsimp only [List.set_cons_zero, List.set_cons_succ]
  refine takeH (i := 52) (d := (some 426)) (v := ?v66) rfl rfl (by as_aux_lemma => kernel_rfl) (by as_aux_lemma => kernel_rfl) (by as_aux_lemma => kernel_rfl) (fun _ _ _ h => h) (by rfl) ?hy66 (by assumption) ?_
  case hy66 => ((intro w hSw; (try dsimp only at hSw); (try go_split_ands); go_simp); try with_reducible rfl)
  simp only [Act.put, List.setIfInBounds_toArray]; dsimp only [List.set_cons_zero, List.set_cons_succ]
  refine takeH (i := 53) (d := (some 427)) (v := ?v67) rfl rfl (by as_aux_lemma => kernel_rfl) (by as_aux_lemma => kernel_rfl) (by as_aux_lemma => kernel_rfl) (fun _ _ _ h => h) (by rfl) ?hy67 (by assumption) ?_
  case hy67 => ((intro w hSw; (try dsimp only at hSw); (try go_split_ands); go_simp); try with_reducible rfl)
  simp only [Act.put, List.setIfInBounds_toArray]; dsimp only [List.set_cons_zero, List.set_cons_succ]
  refine takeH (i := 54) (d := (some 428)) (v := ?v68) rfl rfl (by as_aux_lemma => kernel_rfl) (by as_aux_lemma => kernel_rfl) (by as_aux_lemma => kernel_rfl) (fun _ _ _ h => h) (by rfl) ?hy68 (by assumption) ?_
  case hy68 => ((intro w hSw; (try dsimp only at hSw); (try go_split_ands); go_simp); try with_reducible rfl)
  simp only [Act.put, List.setIfInBounds_toArray]; dsimp only [List.set_cons_zero, List.set_cons_succ]
  refine takeH (i := 55) (d := (some 429)) (v := ?v69) rfl rfl (by as_aux_lemma => kernel_rfl) (by as_aux_lemma => kernel_rfl) (by as_aux_lemma => kernel_rfl) (fun _ _ _ h => h) (by rfl) ?hy69 (by assumption) ?_
  case hy69 => ((intro w hSw; (try dsimp only at hSw); (try go_split_ands); go_simp); try with_reducible rfl)
  simp only [Act.put, List.setIfInBounds_toArray]; dsimp only [List.set_cons_zero, List.set_cons_succ]
  refine takeH (i := 56) (d := (some 430)) (v := ?v70) rfl rfl (by as_aux_lemma => kernel_rfl) (by as_aux_lemma => kernel_rfl) (by as_aux_lemma => kernel_rfl) (fun _ _ _ h => h) (by rfl) ?hy70 (by assumption) ?_
  case hy70 => ((intro w hSw; (try dsimp only at hSw); (try go_split_ands); go_simp); try with_reducible rfl)
  simp only [Act.put, List.setIfInBounds_toArray]; dsimp only [List.set_cons_zero, List.set_cons_succ]
  refine wpAnyH_ready (rs := [57]) (by as_aux_lemma => kernel_rfl) (by simp) ?_
  refine AllReadyH.cons rfl (fun K hK => ?_) AllReadyH.nil
  go_simp
  have I0 := ints_lit (w := w17) (xs := [0]) (cs := #[.int .i64 0]) w17.heap.size rfl (by decide) (fun j hj => by
    have : j = 0 := by have : j < 1 := hj; omega
    subst this
    rfl)
  have A := Up.alloc hHeld.1 (.cells #[.int .i64 0] 3)
  have HA := Lib.hid (fun w' (u : Up (w17.alloc (.cells #[.int .i64 0] 3)) w') => B_Alike_any (HIS.out w' (A.trans u)) (I0.up u))
  refine hK.out _ _ ⟨A, blk_keep _ hHeld.2⟩ (fun hHeld => ?_)
  clear hK K I0 A
  refine wpAnyH_ready (rs := [58]) (by as_aux_lemma => kernel_rfl) (by simp) ?_
  refine AllReadyH.cons rfl (fun K hK => ?_) AllReadyH.nil
  go_simp
  refine (HA.out _ (Up.refl _)).mono ?_
  rintro e w18 ⟨rfl, u⟩
  go_wp2_with fail
  refine hK.out _ _ ⟨hHeld.1.trans u, u.blk hHeld.2⟩ (fun hHeld => ?_)
  clear hK K u HA
  refine takeH (i := 59) (d := (some 433)) (v := ?v73) rfl rfl (by as_aux_lemma => kernel_rfl) (by as_aux_lemma => kernel_rfl) (by as_aux_lemma => kernel_rfl) (fun _ _ _ h => h) (by rfl) ?hy73 (by assumption) ?_
  case hy73 => ((intro w hSw; (try dsimp only at hSw); (try go_split_ands); go_simp); try with_reducible rfl)
  simp only [Act.put, List.setIfInBounds_toArray]; dsimp only [List.set_cons_zero, List.set_cons_succ]
  refine takeH (i := 60) (d := (some 434)) (v := ?v74) rfl rfl (by as_aux_lemma => kernel_rfl) (by as_aux_lemma => kernel_rfl) (by as_aux_lemma => kernel_rfl) (fun _ _ _ h => h) (by rfl) ?hy74 (by assumption) ?_
  case hy74 => ((intro w hSw; (try dsimp only at hSw); (try go_split_ands); go_simp); try with_reducible rfl)
  simp only [Act.put, List.setIfInBounds_toArray]; dsimp only [List.set_cons_zero, List.set_cons_succ]
  refine takeH (i := 61) (d := (some 435)) (v := ?v75) rfl rfl (by as_aux_lemma => kernel_rfl) (by as_aux_lemma => kernel_rfl) (by as_aux_lemma => kernel_rfl) (fun _ _ _ h => h) (by rfl) ?hy75 (by assumption) ?_
  case hy75 => ((intro w hSw; (try dsimp only at hSw); (try go_split_ands); go_simp); try with_reducible rfl)
  simp only [Act.put, List.setIfInBounds_toArray]; dsimp only [List.set_cons_zero, List.set_cons_succ]
  refine takeH (i := 62) (d := (some 436)) (v := ?v76) rfl rfl (by as_aux_lemma => kernel_rfl) (by as_aux_lemma => kernel_rfl) (by as_aux_lemma => kernel_rfl) (fun _ _ _ h => h) (by rfl) ?hy76 (by assumption) ?_
  case hy76 => ((intro w hSw; (try dsimp only at hSw); (try go_split_ands); go_simp); try with_reducible rfl)
  simp only [Act.put, List.setIfInBounds_toArray]; dsimp only [List.set_cons_zero, List.set_cons_succ]
  refine wpAnyH_ready (rs := [63]) (by as_aux_lemma => kernel_rfl) (by simp) ?_
  refine AllReadyH.cons rfl (fun K hK => ?_) AllReadyH.nil
  go_simp
  refine (HW.out _).mono ?_
  rintro e w19 ⟨rfl, u⟩
  go_wp2_with fail
  refine hK.out _ _ ⟨hHeld.1.trans u, u.blk hHeld.2⟩ (fun hHeld => ?_)
  clear hK K u
  refine takeH (i := 64) (d := (some 438)) (v := ?v78) rfl rfl (by as_aux_lemma => kernel_rfl) (by as_aux_lemma => kernel_rfl) (by as_aux_lemma => kernel_rfl) (fun _ _ _ h => h) (by rfl) ?hy78 (by assumption) ?_
  case hy78 => ((intro w hSw; (try dsimp only at hSw); (try go_split_ands); go_simp); try with_reducible rfl)
  simp only [Act.put, List.setIfInBounds_toArray]; dsimp only [List.set_cons_zero, List.set_cons_succ]
  refine takeH (i := 65) (d := (some 0)) (v := ?v79) rfl rfl (by as_aux_lemma => kernel_rfl) (by as_aux_lemma => kernel_rfl) (by as_aux_lemma => kernel_rfl) (fun _ _ _ h => h) (by rfl) ?hy79 (by assumption) ?_
  case hy79 => ((intro w hSw; (try dsimp only at hSw); (try go_split_ands); go_simp); try with_reducible rfl)
  simp only [Act.put, List.setIfInBounds_toArray]; dsimp only [List.set_cons_zero, List.set_cons_succ]
  refine wpAnyH_done (by as_aux_lemma => kernel_rfl) ?_ _
  go_wp2
  go_ret
  exact ⟨rfl, HV.out.trans (HUU.out.trans hHeld.1)⟩

end Go.Proofs.Ytcadpdbadgejfaa
