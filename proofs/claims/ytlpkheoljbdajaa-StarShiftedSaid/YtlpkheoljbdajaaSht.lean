import Derived.Test.YtlpkheoljbdajaaShf
import Derived.Test.YtlpkheoljbdajaaSou
import Derived.Test.YtlpkheoljbdajaaHeQ
import Derived.Test.YtlpkheoljbdajaaHst
import Derived.Deep.Cut
/- What the laws of shifted books share; the second part of the law StarShifted. -/
namespace Go.Proofs.Ytlpkheoljbdajaa
open Go.RowKit Go.Shelf
attribute [local go_sem] Oper.semAt_some

theorem cell_int3 {w : World} {b : Nat} {cs : Array Value} (h : mblk w b = some (.cells cs 40 (0, 0))) (j : Nat) : w.cell? ⟨b, j, none⟩ = cs[j]? := cellB h j
attribute [local go_sem] cell_int3
/-- a copied list of looks in new memory, whose elements can be stored -/
def T.Own5 (w : World) (base : Nat) (a : Option Addr) (n c : Nat) (L : List T.T5) : Prop := Lks w (.slice a n c) L ∧ (0 < n → ∃ g cur, a = some ⟨g, 0, none⟩ ∧ base ≤ g ∧ mblk w g = some (.cells cur 63 (0, 0)) ∧ n * 5 ≤ cur.size)
theorem T.Own5.of_row {W : World} {base n c : Nat} {a : Option Addr} {L : List T.T5} (ho : W.ownsRow base 63 5 (.slice a n c) n (T.flat 5 T.encL L)) (hn : n ≤ 1000000) : T.Own5 W base a n c L :=
  ⟨Tab.of_row ho (by decide) hn, fun h => by
    obtain ⟨g, cap, cur, e, hb, hm, hc, hx, hz⟩ := row_open ho h
    injection e with e1 e2 e3
    exact ⟨g, cur, e1, hb, hm, by omega⟩⟩
theorem T.Own5.up {w w' : World} {base n c : Nat} {a : Option Addr} {L : List T.T5} (h : T.Own5 w base a n c L) (u : Up w w') : T.Own5 w' base a n c L :=
  ⟨h.1.up u, fun q => by
    obtain ⟨g, cur, e, hb, hm, hz⟩ := h.2 q
    exact ⟨g, cur, e, hb, u.blk hm, hz⟩⟩
theorem T.look_rd {N : Nat} {bl bh rl rh : Int} {ps qs : List (Int × Int)} {ls : List T.T5} (hv : T.valid N bl bh rl rh ps qs ls = true) {j : Nat} (hj : j < ls.length) {r0 r1 r2 r3 r4 : Int} (h : ls.getD j (0, 0, 0, 0, 0) = (r0, r1, r2, r3, r4)) : (r1 = 0 ∨ r1 = 1) ∧ -30000 ≤ r3 ∧ r3 ≤ 30000 := by
  have q := T.look_iff.1 (T.valid_all hv _ (T.getD_mem (d := (0, 0, 0, 0, 0)) hj))
  rw [h] at q
  dsimp only at q
  omega
theorem Tab.moveB {α : Type} {k : Nat} {enc : α → Nat → Int} {d : α} {W W' : World} {g n c : Nat} {xs : List α} {o : Obj} (I : Tab k enc d W (.slice (some ⟨g, 0, none⟩) n c) xs) (h : mblk W g = some o) (h' : mblk W' g = some o) : Tab k enc d W' (.slice (some ⟨g, 0, none⟩) n c) xs := by
  obtain ⟨a, c', e, h1, h2, hm⟩ := I.is
  refine ⟨a, c', e, h1, h2, fun q => ?_⟩
  obtain ⟨g', off, ga, gl, hx⟩ := hm q
  subst ga
  injection e with e1
  injection e1 with e1
  injection e1 with e1 e2
  subst e1 e2
  refine ⟨g, 0, rfl, blk_lt h', fun j hj i hi => ?_⟩
  rw [← hx j hj i hi]
  have e3 : W'.heap[g]? = W.heap[g]? := by
    have a1 : W'.heap[g]? = some o := h'
    have a2 : W.heap[g]? = some o := h
    rw [a1, a2]
  simp only [World.cell?, e3]
noncomputable def Sh.body : Code := (Try.f15.body).getD .skip
def Sh.rt : Nat → Code → Code
  | 0, c => c
  | n + 1, .seq _ b => Sh.rt n b
  | _, c => c
section
variable {bl bh rl rh : Int} {aP aQ aL : Option Addr} {nP cP nQ cQ nL cL : Nat} {ps qs : List (Int × Int)} {ls : List T.T5}
set_option maxRecDepth 100000 in
set_option maxHeartbeats 8000000 in
theorem sh_tail (c0 c1 c4 c6 c7 c8 c10 c13 c14 c15 c16 c17 c18 c19 c20 c21 c22 c23 c24 c25 c26 c27 c28 c29 c30 c31 c32 c33 c34 c35 c36 c37 c38 c39 c40 c41 c42 c43 c44 c45 c46 c47 c48 c49 c50 c51 c52 c53 c54 c55 c56 c57 c58 c59 c60 c61 c62 c63 c64 c65 c66 c67 c68 c69 c70 c71 c72 c73 c74 c75 c76 c77 c78 c79 c80 c81 c82 c83 c84 c85 c86 c87 c88 c89 c90 c91 c92 c93 c94 c95 c96 c97 c98 c99 c100 c101 c102 c103 c104 c105 c106 c107 c108 c109 c110 c111 c112 c113 c114 c115 c116 c117 c118 c119 c120 c121 c122 c123 c124 c125 c126 c127 c128 c129 c130 c131 c132 c133 c134 c135 c136 c137 c138 c139 c140 c141 c142 c143 c144 c145 c146 c147 c148 c149 c150 c151 c152 c153 c154 c155 c156 c157 c158 c159 c160 c161 c162 c163 c164 c165 c166 c167 c168 c169 c170 c171 c172 c173 c174 c175 : Value) {N : Nat} {n0 n1 n2 bq i lc hc e : Int} {q0 pkc : Nat} {w W : World} (I : Sps w (.slice aP ps.length cP) ps) (J : Sps w (.slice aQ qs.length cQ) qs) (K : Lks w (.slice aL ls.length cL) ls) (hv : T.valid (N : Int) bl bh rl rh ps qs ls = true) (hi : 0 ≤ i ∧ i < N) (hbq : 0 ≤ bq ∧ bq < 50) (tc : T.Tells (T.Tr N bl bh rl rh ps qs ls) 0 (1 + i) lc hc e) (gq : w.heap.size ≤ q0) (dq1 : q0 + 1 < pkc) (U : Up w W) (kB : mblk W q0 = some (.cells (BoC (N : Int) bl bh rl rh (.slice aP ps.length cP) (.slice aQ qs.length cQ) (.slice aL ls.length cL)) 27 (0, 0))) (kN : mblk W (q0 + 1) = some (.cells #[.int .i64 n0, .int .i64 n1, .int .i64 n2] 40 (0, 0))) (kc : mblk W pkc = some (.cells #[.int .i64 lc, .int .i64 hc] 23 (0, 0))) :
    Code.wp Try.prog (Sh.rt 13 Sh.body) (bodyPost Try.prog Try.f15 fun e w' => e = .returned (.bool true) ∧ Up w w') ⟨#[c0, c1, (.pointer (some ⟨q0, 0, none⟩)), (.pointer (some ⟨q0 + 1, 0, none⟩)), c4, (.int .i64 bq), c6, c7, c8, (.int .i64 i), c10, (.pointer (some ⟨pkc, 0, none⟩)), (.int .i64 e), c13, c14, c15, c16, c17, c18, c19, c20, c21, c22, c23, c24, c25, c26, c27, c28, c29, c30, c31, c32, c33, c34, c35, c36, c37, c38, c39, c40, c41, c42, c43, c44, c45, c46, c47, c48, c49, c50, c51, c52, c53, c54, c55, c56, c57, c58, c59, c60, c61, c62, c63, c64, c65, c66, c67, c68, c69, c70, c71, c72, c73, c74, c75, c76, c77, c78, c79, c80, c81, c82, c83, c84, c85, c86, c87, c88, c89, c90, c91, c92, c93, c94, c95, c96, c97, c98, c99, c100, c101, c102, c103, c104, c105, c106, c107, c108, c109, c110, c111, c112, c113, c114, c115, c116, c117, c118, c119, c120, c121, c122, c123, c124, c125, c126, c127, c128, c129, c130, c131, c132, c133, c134, c135, c136, c137, c138, c139, c140, c141, c142, c143, c144, c145, c146, c147, c148, c149, c150, c151, c152, c153, c154, c155, c156, c157, c158, c159, c160, c161, c162, c163, c164, c165, c166, c167, c168, c169, c170, c171, c172, c173, c174, c175, undef, undef, undef, undef, undef, undef, undef, undef, undef, undef, undef, undef, undef, undef, undef, undef, undef, undef, undef, undef, undef, undef, undef, undef, undef, undef, undef, undef, undef, undef, undef, undef, undef, undef, undef, undef, undef, undef, undef, undef, undef, undef, undef, undef, undef, undef, undef, undef, undef, undef, undef, undef, undef, undef, undef, undef, undef, undef, undef, undef, undef, undef, undef, undef, undef, undef, undef, undef, undef, undef, undef, undef, undef, undef, undef, undef, undef, undef, undef, undef, undef, undef, undef, undef, undef, undef, undef, undef, undef, undef, undef, undef, undef, undef, undef, undef, undef, undef, undef, undef, undef, undef, undef, undef, undef, undef, undef, undef, undef, undef, undef, undef, undef, undef, undef, undef, undef, undef, undef, undef, undef, undef, undef, undef, undef, undef, undef, undef, undef, undef, undef, undef, undef, undef], []⟩ W := by
  obtain ⟨⟨hN, hB, hR⟩, ⟨h4, h5, h10⟩, hP, hQ, hL⟩ := T.valid_parts hv
  have hmx : Try.prog.follows .mixedOrders = true := by kernel_rfl
  have HW := Lib.hid (fun w => l_works_any w)
  have HTo := Lib.hid (fun l h w => B_To_any l h w)
  have HI := Lib.hid (fun w' (u : Up w w') => I.up u)
  have HJ := Lib.hid (fun w' (u : Up w w') => J.up u)
  have HK := Lib.hid (fun w' (u : Up w w') => K.up u)
  have HV := Lib.hid hv
  have HL4 := Lib.hid (And.intro h4 (And.intro h5 h10))
  have HPB := Lib.hid (fun x (hx : x ∈ ps) => T.per_iff.1 (hP x hx))
  have HIK := Lib.hid (And.intro hi True.intro)
  have HT := Lib.hid (And.intro tc True.intro)
  have HE := Lib.hid tc.err
  have HBQ := Lib.hid hbq
  clear I J K hv hi tc hbq hN hB hR h4 h5 h10 hP hQ hL
  conv => arg 2; whnf
  by_cases hp0 : ps.length = 0
  · skip
    skip
    have dp : ((ps.length : Int) == 0) = true := by rw [beq_iff_eq]; omega
    clear hp0
    go_wp2_with fail
    refine (HW.out _).mono ?_
    rintro e x21 ⟨rfl, u22⟩
    replace U := U.trans u22
    replace kB := u22.blk kB
    replace kN := u22.blk kN
    replace kc := u22.blk kc
    clear u22 
    go_wp2
    go_ret
    exact ⟨rfl, U⟩
  · skip
    skip
    have dp : ((ps.length : Int) == 0) = false := by rw [beq_eq_false_iff_ne]; omega
    have HRz := Lib.hid (fun w => B_Rest_any n1 (ps.length : Int) w (by omega) (by have := HL4.out; omega))
    have az := Int.emod_nonneg n1 (b := (ps.length : Int)) (by omega)
    have bz := Int.emod_lt_of_pos n1 (b := (ps.length : Int)) (by omega)
    generalize n1 % (ps.length : Int) = who at *
    obtain ⟨who, rfl⟩ := Int.eq_ofNat_of_zero_le az
    have hkk : who < ps.length := by omega
    have ikk : (who : Int) < (ps.length : Int) := by omega
    have hp4 : ps.length ≤ 4 := HL4.out.1
    clear hp0 az bz
    obtain ⟨⟨p0, p1⟩, hss⟩ : ∃ s, ps.getD who (0, 0) = s := ⟨_, rfl⟩
    have hbs := HPB.out (ps.getD who (0, 0)) (T.getD_mem hkk)
    rw [hss] at hbs
    dsimp only at hbs
    obtain ⟨a'', c'', e'', _, _, hm⟩ := (HI.out w (Up.refl w)).is
    injection e'' with ea eb ec
    clear eb ec
    obtain ⟨gP, oP, ga, glP, hxP⟩ := hm (by omega)
    subst ea ga
    clear hm
    have HcP := Lib.hid (fun w' (u : Up w w') => And.intro (show w'.cell? ⟨gP, oP + who * 2, none⟩ = some (.int .i64 p0) by have := hxP who hkk 0 (by omega); rw [hss] at this; exact (u.facts.1 gP _ glP).trans this) (show w'.cell? ⟨gP, oP + who * 2 + 1, none⟩ = some (.int .i64 p1) by have := hxP who hkk 1 (by omega); rw [hss] at this; exact (u.facts.1 gP _ glP).trans this))
    clear hxP glP
    have y1 : IntKind.i64.wrap (p0 + bq) = p0 + bq := IntWalk.i64_in _ (by have := HBQ.out; omega)
    have y2 : IntKind.i64.wrap (p1 + bq) = p1 + bq := IntWalk.i64_in _ (by have := HBQ.out; omega)
    have HSS := Lib.hid hss
    have hkw := Lib.hid (And.intro hkk (Lib.hid hss))
    clear hbs
    go_wp2_with fail
    refine (HRz.out _).mono ?_
    rintro e x41 ⟨rfl, rfl⟩
    clear HRz
    clear kN
    have i0 := kB
    have dkBkz := blk_lt kB
    have dkckz := blk_lt kc
    have gkz := U.size
    have kz := blk_new W (.cells (BoC (N : Int) bl bh rl rh (.slice (some ⟨gP, oP, none⟩) ps.length cP) (.slice aQ qs.length cQ) (.slice aL ls.length cL)) 27) _ rfl
    replace kB := blk_keep (.cells (BoC (N : Int) bl bh rl rh (.slice (some ⟨gP, oP, none⟩) ps.length cP) (.slice aQ qs.length cQ) (.slice aL ls.length cL)) 27) kB
    replace kc := blk_keep (.cells (BoC (N : Int) bl bh rl rh (.slice (some ⟨gP, oP, none⟩) ps.length cP) (.slice aQ qs.length cQ) (.slice aL ls.length cL)) 27) kc
    replace U := U.alloc (.cells (BoC (N : Int) bl bh rl rh (.slice (some ⟨gP, oP, none⟩) ps.length cP) (.slice aQ qs.length cQ) (.slice aL ls.length cL)) 27)
    obtain ⟨pkz, hpkz⟩ : ∃ z, W.heap.size = z := ⟨_, rfl⟩
    obtain ⟨W42, hW42⟩ : ∃ z, W.alloc (.cells (BoC (N : Int) bl bh rl rh (.slice (some ⟨gP, oP, none⟩) ps.length cP) (.slice aQ qs.length cQ) (.slice aL ls.length cL)) 27) = z := ⟨_, rfl⟩
    rw [hpkz] at kz dkBkz dkckz gkz
    rw [hW42] at kz U kB kc
    skip
    have own0 := World.ownsRow_lit (base := W42.heap.size) (e := 23) (size := 2) W42 #[] 0 (Nat.le_refl _) (by unfold maxLen; omega) rfl
    obtain ⟨pe, hpe⟩ : ∃ z, W42.heap.size = z := ⟨_, rfl⟩
    have IX1 := HI.out _ (U.alloc (.cells #[] 23))
    have U1 := U.alloc (.cells #[] 23)
    have jkB := blk_keep (.cells #[] 23) kB
    have lkB := blk_lt kB
    have jkc := blk_keep (.cells #[] 23) kc
    have lkc := blk_lt kc
    have jkz := blk_keep (.cells #[] 23) kz
    have lkz := blk_lt kz
    rw [hpe] at own0 lkB lkc lkz
    have gw := U.size
    rw [hpe] at gw
    go_wp2_with (at_builtin; refine T.wpList_app (ys := []) T.elS rfl (.tmp 188) (.tmp 190) rfl IX1 rfl pe _ 0 rfl own0 (by omega) (by omega) (by simp [hpe]) ?_; intro v1 w1 own1 grow1; rw [Nat.zero_add] at own1; have rkB := grown_blk grow1 jkB (row_block own0 lkB); have rkc := grown_blk grow1 jkc (row_block own0 lkc); have rkz := grown_blk grow1 jkz (row_block own0 lkz); have U2 : Up w w1 := U1.grown grow1 (fun k e => by (have := row_base own0 k e; omega)); obtain ⟨g2, c2, cur, rfl, hg2, kg, hc2, hm2, hz2⟩ := row_open own1 (by omega); have zx := frozB rkz; have x3 := blk_put rkz 5 (.slice (some ⟨g2, 0, none⟩) ps.length c2))
    obtain ⟨W43, hW43⟩ : ∃ z, w1.setCell ⟨pkz, 5, none⟩ (.slice (some ⟨g2, 0, none⟩) ps.length c2) = z := ⟨_, rfl⟩
    have ltg : pkz < g2 := by omega
    have own3 : W43.ownsRow pe 23 2 (.slice (some ⟨g2, 0, none⟩) ps.length c2) ps.length (T.flat 2 T.encS ps) := by
      rw [← hW43]
      exact row_other own1 (grown_set w1 (pkz) 5 _) (row_block own1 lkz)
    have IX2 : Tab 2 T.encS (0, 0) W43 (.slice (some ⟨g2, 0, none⟩) ps.length c2) ps := Tab.of_row own3 (by decide) (by omega)
    have U4 : Up w W43 := by rw [← hW43]; exact U2.set (p := ⟨pkz, 5, none⟩) (show w.heap.size ≤ pkz by omega) _
    have jg : mblk W43 g2 = some (.cells cur 23 (0, 0)) := by rw [← hW43, blk_set _ _ _ _ (by show g2 ≠ pkz; omega)]; exact kg
    have jx4 : mblk W43 (pkz) = some (.cells (BoC (N : Int) bl bh rl rh (.slice (some ⟨g2, 0, none⟩) ps.length c2) (.slice aQ qs.length cQ) (.slice aL ls.length cL)) 27 (0, 0)) := by rw [← hW43]; exact x3
    have ykB : mblk W43 (q0) = some (.cells (BoC (N : Int) bl bh rl rh (.slice (some ⟨gP, oP, none⟩) ps.length cP) (.slice aQ qs.length cQ) (.slice aL ls.length cL)) 27 (0, 0)) := by rw [← hW43, blk_set _ _ _ _ (by show q0 ≠ pkz; omega)]; exact rkB
    have ykc : mblk W43 (pkc) = some (.cells #[.int .i64 lc, .int .i64 hc] 23 (0, 0)) := by rw [← hW43, blk_set _ _ _ _ (by show pkc ≠ pkz; omega)]; exact rkc
    have dgkB : q0 < g2 := by omega
    have dgkc : pkc < g2 := by omega
    try rw [hW43]
    clear hW43 x3 zx kg own1 own3 U2 U1 own0 IX1 grow1 U hpe rkB jkB kB rkc jkc kc rkz jkz kz
    have U := U4
    have kz := jx4
    have kg := jg
    clear U4 jx4 jg
    have kB := ykB
    clear ykB
    have kc := ykc
    clear ykc
    try clear hW42
    try clear hpkz
    try clear i0
    obtain ⟨d0, d1⟩ := HcP.out _ U
    have g0 := Tab.at0 IX2 hkk 0 (by omega)
    have g1 := Tab.at0 IX2 hkk 1 (by omega)
    rw [HSS.out] at g0 g1
    rw [Nat.add_zero] at g0
    replace g0 : W43.cell? ⟨g2, who * 2, none⟩ = some (.int .i64 p0) := g0
    replace g1 : W43.cell? ⟨g2, who * 2 + 1, none⟩ = some (.int .i64 p1) := g1
    clear d0 d1
    have HU := Lib.hid U
    have lg2 : g2 < W43.heap.size := blk_lt kg
    have Fg := Lib.hid (fun w (u : Up W43 w) => cellB (u.blk kg))
    have F45 := Lib.hid (fun w (u : Up W43 w) => cellB (u.blk kB))
    have F46 := Lib.hid (fun w (u : Up W43 w) => cellB (u.blk kc))
    have F47 := Lib.hid (fun w (u : Up W43 w) => cellB (u.blk kz))
    refine (wpIn_wide (n := 5)).1 ?_
    refine wpIn_nrm ?_
    refine T.regionQ (fun w' => Up W43 w') 21 1 hmx (by kernel_rfl) (by kernel_rfl) ((Up.refl W43).drew) (fun hCl => ?_)
    refine T.qT 0 (some 193) ?v1 rfl rfl hCl ?hy1 (fun hCl' => ?_)
    case hy1 => (intro w hSw; refine T.qVal ?_ hSw; (try dsimp only [List.getElem_toArray, List.getElem_cons_succ, List.getElem_cons_zero]); go_simp; try with_reducible rfl)
    simp only [Act.put, List.setIfInBounds_toArray, List.set_cons_zero, List.set_cons_succ]; replace hCl := hCl'; clear hCl'
    refine T.qT 2 (some 195) ?v2 rfl rfl hCl ?hy2 (fun hCl' => ?_)
    case hy2 => (intro w hSw; refine T.qVal ?_ hSw; (try dsimp only [List.getElem_toArray, List.getElem_cons_succ, List.getElem_cons_zero]); go_simp; try with_reducible rfl)
    simp only [Act.put, List.setIfInBounds_toArray, List.set_cons_zero, List.set_cons_succ]; replace hCl := hCl'; clear hCl'
    refine T.qT 3 (some 196) ?v3 rfl rfl hCl ?hy3 (fun hCl' => ?_)
    case hy3 => (intro w hSw; refine T.qVal ?_ hSw; (try dsimp only [List.getElem_toArray, List.getElem_cons_succ, List.getElem_cons_zero]); go_simp; try with_reducible rfl)
    simp only [Act.put, List.setIfInBounds_toArray, List.set_cons_zero, List.set_cons_succ]; replace hCl := hCl'; clear hCl'
    refine T.qT 5 (some 198) ?v4 rfl rfl hCl ?hy4 (fun hCl' => ?_)
    case hy4 => (intro w hSw; refine T.qVal ?_ hSw; (try dsimp only [List.getElem_toArray, List.getElem_cons_succ, List.getElem_cons_zero]); go_simp; try with_reducible rfl)
    simp only [Act.put, List.setIfInBounds_toArray, List.set_cons_zero, List.set_cons_succ]; replace hCl := hCl'; clear hCl'
    refine T.qT 9 (some 202) ?v5 rfl rfl hCl ?hy5 (fun hCl' => ?_)
    case hy5 => (intro w hSw; refine T.qVal ?_ hSw; (try dsimp only [List.getElem_toArray, List.getElem_cons_succ, List.getElem_cons_zero]); go_simp; try with_reducible rfl)
    simp only [Act.put, List.setIfInBounds_toArray, List.set_cons_zero, List.set_cons_succ]; replace hCl := hCl'; clear hCl'
    refine T.qT 11 (some 204) ?v6 rfl rfl hCl ?hy6 (fun hCl' => ?_)
    case hy6 => (intro w hSw; refine T.qVal ?_ hSw; (try dsimp only [List.getElem_toArray, List.getElem_cons_succ, List.getElem_cons_zero]); go_simp; try with_reducible rfl)
    simp only [Act.put, List.setIfInBounds_toArray, List.set_cons_zero, List.set_cons_succ]; replace hCl := hCl'; clear hCl'
    refine T.qT 13 (some 206) ?v7 rfl rfl hCl ?hy7 (fun hCl' => ?_)
    case hy7 => (intro w hSw; refine T.qVal ?_ hSw; (try dsimp only [List.getElem_toArray, List.getElem_cons_succ, List.getElem_cons_zero]); go_simp; try with_reducible rfl)
    simp only [Act.put, List.setIfInBounds_toArray, List.set_cons_zero, List.set_cons_succ]; replace hCl := hCl'; clear hCl'
    refine T.qT 17 (some 210) ?v8 rfl rfl hCl ?hy8 (fun hCl' => ?_)
    case hy8 => (intro w hSw; refine T.qVal ?_ hSw; (try dsimp only [List.getElem_toArray, List.getElem_cons_succ, List.getElem_cons_zero]); go_simp; try with_reducible rfl)
    simp only [Act.put, List.setIfInBounds_toArray, List.set_cons_zero, List.set_cons_succ]; replace hCl := hCl'; clear hCl'
    refine T.qT 1 (some 194) ?v9 rfl rfl hCl ?hy9 (fun hCl' => ?_)
    case hy9 => (intro w hSw; refine T.qVal ?_ hSw; (have fF45 := F45.out w hSw; have fF46 := F46.out w hSw; have fF47 := F47.out w hSw; have fFg := Fg.out w hSw; obtain ⟨d0, d1⟩ := HcP.out _ (HU.out.trans hSw)); (try dsimp only [List.getElem_toArray, List.getElem_cons_succ, List.getElem_cons_zero]); go_simp; try with_reducible rfl)
    simp only [Act.put, List.setIfInBounds_toArray, List.set_cons_zero, List.set_cons_succ]; replace hCl := hCl'; clear hCl'
    refine T.qT 4 (some 197) ?v10 rfl rfl hCl ?hy10 (fun hCl' => ?_)
    case hy10 => (intro w hSw; refine T.qVal ?_ hSw; (have fF45 := F45.out w hSw; have fF46 := F46.out w hSw; have fF47 := F47.out w hSw; have fFg := Fg.out w hSw; obtain ⟨d0, d1⟩ := HcP.out _ (HU.out.trans hSw)); (try dsimp only [List.getElem_toArray, List.getElem_cons_succ, List.getElem_cons_zero]); go_simp; try with_reducible rfl)
    simp only [Act.put, List.setIfInBounds_toArray, List.set_cons_zero, List.set_cons_succ]; replace hCl := hCl'; clear hCl'
    refine T.qT 12 (some 205) ?v11 rfl rfl hCl ?hy11 (fun hCl' => ?_)
    case hy11 => (intro w hSw; refine T.qVal ?_ hSw; (have fF45 := F45.out w hSw; have fF46 := F46.out w hSw; have fF47 := F47.out w hSw; have fFg := Fg.out w hSw; obtain ⟨d0, d1⟩ := HcP.out _ (HU.out.trans hSw)); (try dsimp only [List.getElem_toArray, List.getElem_cons_succ, List.getElem_cons_zero]); go_simp; try with_reducible rfl)
    simp only [Act.put, List.setIfInBounds_toArray, List.set_cons_zero, List.set_cons_succ]; replace hCl := hCl'; clear hCl'
    refine T.qT 6 (some 199) ?v12 rfl rfl hCl ?hy12 (fun hCl' => ?_)
    case hy12 => (intro w hSw; refine T.qVal ?_ hSw; (try dsimp only [List.getElem_toArray, List.getElem_cons_succ, List.getElem_cons_zero]); go_simp; try with_reducible rfl)
    simp only [Act.put, List.setIfInBounds_toArray, List.set_cons_zero, List.set_cons_succ]; replace hCl := hCl'; clear hCl'
    refine T.qT 14 (some 207) ?v13 rfl rfl hCl ?hy13 (fun hCl' => ?_)
    case hy13 => (intro w hSw; refine T.qVal ?_ hSw; (try dsimp only [List.getElem_toArray, List.getElem_cons_succ, List.getElem_cons_zero]); go_simp; try with_reducible rfl)
    simp only [Act.put, List.setIfInBounds_toArray, List.set_cons_zero, List.set_cons_succ]; replace hCl := hCl'; clear hCl'
    refine T.qT 7 (some 200) ?v14 rfl rfl hCl ?hy14 (fun hCl' => ?_)
    case hy14 => (intro w hSw; refine T.qVal ?_ hSw; (try dsimp only [List.getElem_toArray, List.getElem_cons_succ, List.getElem_cons_zero]); go_simp; try with_reducible rfl)
    simp only [Act.put, List.setIfInBounds_toArray, List.set_cons_zero, List.set_cons_succ]; replace hCl := hCl'; clear hCl'
    refine T.qT 15 (some 208) ?v15 rfl rfl hCl ?hy15 (fun hCl' => ?_)
    case hy15 => (intro w hSw; refine T.qVal ?_ hSw; (try dsimp only [List.getElem_toArray, List.getElem_cons_succ, List.getElem_cons_zero]); go_simp; try with_reducible rfl)
    simp only [Act.put, List.setIfInBounds_toArray, List.set_cons_zero, List.set_cons_succ]; replace hCl := hCl'; clear hCl'
    refine T.qT 8 (some 201) ?v16 rfl rfl hCl ?hy16 (fun hCl' => ?_)
    case hy16 => (intro w hSw; refine T.qVal ?_ hSw; (have fF45 := F45.out w hSw; have fF46 := F46.out w hSw; have fF47 := F47.out w hSw; have fFg := Fg.out w hSw; obtain ⟨d0, d1⟩ := HcP.out _ (HU.out.trans hSw)); (try dsimp only [List.getElem_toArray, List.getElem_cons_succ, List.getElem_cons_zero]); go_simp; try with_reducible rfl)
    simp only [Act.put, List.setIfInBounds_toArray, List.set_cons_zero, List.set_cons_succ]; replace hCl := hCl'; clear hCl'
    refine T.qT 16 (some 209) ?v17 rfl rfl hCl ?hy17 (fun hCl' => ?_)
    case hy17 => (intro w hSw; refine T.qVal ?_ hSw; (have fF45 := F45.out w hSw; have fF46 := F46.out w hSw; have fF47 := F47.out w hSw; have fFg := Fg.out w hSw; obtain ⟨d0, d1⟩ := HcP.out _ (HU.out.trans hSw)); (try dsimp only [List.getElem_toArray, List.getElem_cons_succ, List.getElem_cons_zero]); go_simp; try with_reducible rfl)
    simp only [Act.put, List.setIfInBounds_toArray, List.set_cons_zero, List.set_cons_succ]; replace hCl := hCl'; clear hCl'
    refine T.qT 10 (some 203) ?v18 rfl rfl hCl ?hy18 (fun hCl' => ?_)
    case hy18 => (intro w hSw; refine T.qVal ?_ hSw; (try dsimp only [List.getElem_toArray, List.getElem_cons_succ, List.getElem_cons_zero]); go_simp; try with_reducible rfl)
    simp only [Act.put, List.setIfInBounds_toArray, List.set_cons_zero, List.set_cons_succ]; replace hCl := hCl'; clear hCl'
    refine T.qT 18 (some 211) ?v19 rfl rfl hCl ?hy19 (fun hCl' => ?_)
    case hy19 => (intro w hSw; refine T.qVal ?_ hSw; (try dsimp only [List.getElem_toArray, List.getElem_cons_succ, List.getElem_cons_zero]); go_simp; try with_reducible rfl)
    simp only [Act.put, List.setIfInBounds_toArray, List.set_cons_zero, List.set_cons_succ]; replace hCl := hCl'; clear hCl'
    refine T.qT 19 (some 212) ((SpV (p0 + bq) (p1 + bq))) rfl rfl hCl ?hy20 (fun hCl' => ?_)
    case hy20 => (intro w hSw; (have fF45 := F45.out w hSw; have fF46 := F46.out w hSw; have fF47 := F47.out w hSw; have fFg := Fg.out w hSw; obtain ⟨d0, d1⟩ := HcP.out _ (HU.out.trans hSw)); (try dsimp only [List.getElem_toArray, List.getElem_cons_succ, List.getElem_cons_zero]); go_simp; (refine (callsIn_wide.2 (HTo.out _ _ w)).mono ?_; rintro e w3 ⟨rfl, u3⟩; exact ⟨rfl, hSw.trans u3⟩))
    simp only [Act.put, List.setIfInBounds_toArray, List.set_cons_zero, List.set_cons_succ]
    replace hCl := hCl'; clear hCl'
    refine T.qT 20 (some 213) ?v21 rfl rfl hCl ?hy21 (fun hCl' => ?_)
    case hy21 => (intro w hSw; refine T.qVal ?_ hSw; (try dsimp only [List.getElem_toArray, List.getElem_cons_succ, List.getElem_cons_zero]); go_simp; try with_reducible rfl)
    simp only [Act.put, List.setIfInBounds_toArray, List.set_cons_zero, List.set_cons_succ]; replace hCl := hCl'; clear hCl'
    refine T.tail_intro (by kernel_rfl) (fun Y44 hY44 => ?_)
    replace kg := hY44.blk kg
    replace g0 := (hY44.facts.1 g2 _ lg2).trans g0
    replace g1 := (hY44.facts.1 g2 _ lg2).trans g1
    replace IX2 := IX2.up hY44
    have zg := frozB kg
    have n01 : ¬ who * 2 = who * 2 + 1 := by omega
    clear Fg
    replace U := U.trans hY44
    replace kB := hY44.blk kB
    replace kc := hY44.blk kc
    replace kz := hY44.blk kz
    clear F45 F46 F47 hY44
    refine lastG (i := 21) (by kernel_rfl) rfl (by rfl) (by decide) (fun K hK => ?_)
    go_simp
    refine hK.out _ _ ?_
    clear hK K
    refine doneG (by kernel_rfl) ?_ _
    refine S.nrm_intro ?_
    have jg : mblk ((Y44.setCell ⟨g2, who * 2, none⟩ (.int .i64 (p0 + bq))).setCell ⟨g2, who * 2 + 1, none⟩ (.int .i64 (p1 + bq))) g2 = some (.cells ((cur.setIfInBounds (who * 2) (.int .i64 (p0 + bq))).setIfInBounds (who * 2 + 1) (.int .i64 (p1 + bq))) 23 (0, 0)) := blk_put (blk_put kg _ _) _ _
    have IX3 := Tab.put2 (a := (p0 + bq)) (b := (p1 + bq)) (x := (p0 + bq, p1 + bq)) IX2 kg (by omega) hkk rfl rfl
    have U5 := ((U.set (p := ⟨g2, who * 2, none⟩) (show w.heap.size ≤ g2 by omega) (.int .i64 (p0 + bq))).set (p := ⟨g2, who * 2 + 1, none⟩) (show w.heap.size ≤ g2 by omega) (.int .i64 (p1 + bq)))
    have jkB : mblk ((Y44.setCell ⟨g2, who * 2, none⟩ (.int .i64 (p0 + bq))).setCell ⟨g2, who * 2 + 1, none⟩ (.int .i64 (p1 + bq))) (q0) = some (.cells (BoC (N : Int) bl bh rl rh (.slice (some ⟨gP, oP, none⟩) ps.length cP) (.slice aQ qs.length cQ) (.slice aL ls.length cL)) 27 (0, 0)) := by rw [blk_set _ _ _ _ (by show q0 ≠ g2; omega), blk_set _ _ _ _ (by show q0 ≠ g2; omega)]; exact kB
    have jkc : mblk ((Y44.setCell ⟨g2, who * 2, none⟩ (.int .i64 (p0 + bq))).setCell ⟨g2, who * 2 + 1, none⟩ (.int .i64 (p1 + bq))) (pkc) = some (.cells #[.int .i64 lc, .int .i64 hc] 23 (0, 0)) := by rw [blk_set _ _ _ _ (by show pkc ≠ g2; omega), blk_set _ _ _ _ (by show pkc ≠ g2; omega)]; exact kc
    have jkz : mblk ((Y44.setCell ⟨g2, who * 2, none⟩ (.int .i64 (p0 + bq))).setCell ⟨g2, who * 2 + 1, none⟩ (.int .i64 (p1 + bq))) (pkz) = some (.cells (BoC (N : Int) bl bh rl rh (.slice (some ⟨g2, 0, none⟩) ps.length c2) (.slice aQ qs.length cQ) (.slice aL ls.length cL)) 27 (0, 0)) := by rw [blk_set _ _ _ _ (by show pkz ≠ g2; omega), blk_set _ _ _ _ (by show pkz ≠ g2; omega)]; exact kz
    obtain ⟨W48, hW48⟩ : ∃ z, ((Y44.setCell ⟨g2, who * 2, none⟩ (.int .i64 (p0 + bq))).setCell ⟨g2, who * 2 + 1, none⟩ (.int .i64 (p1 + bq))) = z := ⟨_, rfl⟩
    rw [hW48] at IX3 U5 jkB jkc jkz
    try rw [hW48]
    rw [hW48] at jg
    obtain ⟨CP, hCP⟩ : ∃ c, (cur.setIfInBounds (who * 2) (.int .i64 (p0 + bq))).setIfInBounds (who * 2 + 1) (.int .i64 (p1 + bq)) = c := ⟨_, rfl⟩
    rw [hCP] at jg
    clear hCP
    clear kB kc kz U HU zg n01 g0 g1 kg IX2 lg2 HcP y1 y2
    have U := U5
    have kB := jkB
    have kc := jkc
    have kz := jkz
    clear U5 jkB jkc jkz
    obtain ⟨g3, hg3⟩ : ∃ g, g2 = g := ⟨_, rfl⟩
    subst hg3
    have kp := jg
    have HIP := Lib.hid (fun w' (h : mblk w' g2 = some (.cells CP 23 (0, 0))) => IX3.moveB kp h)
    clear jg IX3 hg2 hc2 hm2 hz2
    obtain ⟨gp2, hgp2⟩ : ∃ g, g = g2 := ⟨_, rfl⟩
    subst hgp2
    have hl10 : ls.length ≤ 10 := HL4.out.2.2
    obtain ⟨cp2, hcp2⟩ : ∃ c, c = c2 := ⟨_, rfl⟩
    subst hcp2
    have own0 := World.ownsRow_lit (base := W48.heap.size) (e := 63) (size := 5) W48 #[] 0 (Nat.le_refl _) (by unfold maxLen; omega) rfl
    obtain ⟨pe, hpe⟩ : ∃ z, W48.heap.size = z := ⟨_, rfl⟩
    have IX1 := HK.out _ (U.alloc (.cells #[] 63))
    have U1 := U.alloc (.cells #[] 63)
    have jkB := blk_keep (.cells #[] 63) kB
    have lkB := blk_lt kB
    have jkc := blk_keep (.cells #[] 63) kc
    have lkc := blk_lt kc
    have jkz := blk_keep (.cells #[] 63) kz
    have lkz := blk_lt kz
    have jkp := blk_keep (.cells #[] 63) kp
    have lkp := blk_lt kp
    rw [hpe] at own0 lkB lkc lkz lkp
    have gw := U.size
    rw [hpe] at gw
    go_wp2_with (at_builtin; refine T.wpList_app (ys := []) T.elL rfl (.tmp 214) (.tmp 216) rfl IX1 rfl pe _ 0 rfl own0 (by omega) (by omega) (by simp [hpe]) ?_; intro v1 w1 own1 grow1; rw [Nat.zero_add] at own1; have rkB := grown_blk grow1 jkB (row_block own0 lkB); have rkc := grown_blk grow1 jkc (row_block own0 lkc); have rkz := grown_blk grow1 jkz (row_block own0 lkz); have rkp := grown_blk grow1 jkp (row_block own0 lkp); have U2 : Up w w1 := U1.grown grow1 (fun k e => by (have := row_base own0 k e; omega)); obtain ⟨a3, c3, rfl, _, _⟩ := row_val own1; have zx := frozB rkz; have x3 := blk_put rkz 7 (.slice a3 ls.length c3))
    obtain ⟨W49, hW49⟩ : ∃ z, w1.setCell ⟨pkz, 7, none⟩ (.slice a3 ls.length c3) = z := ⟨_, rfl⟩
    have own3 : W49.ownsRow pe 63 5 (.slice a3 ls.length c3) ls.length (T.flat 5 T.encL ls) := by
      rw [← hW49]
      exact row_other own1 (grown_set w1 (pkz) 7 _) (row_block own1 lkz)
    have HO := Lib.hid (T.Own5.of_row own3 (by omega))
    have U4 : Up w W49 := by rw [← hW49]; exact U2.set (p := ⟨pkz, 7, none⟩) (show w.heap.size ≤ pkz by omega) _
    have jx4 : mblk W49 (pkz) = some (.cells (BoC (N : Int) bl bh rl rh (.slice (some ⟨gp2, 0, none⟩) ps.length cp2) (.slice aQ qs.length cQ) (.slice a3 ls.length c3)) 27 (0, 0)) := by rw [← hW49]; exact x3
    have ykB : mblk W49 (q0) = some (.cells (BoC (N : Int) bl bh rl rh (.slice (some ⟨gP, oP, none⟩) ps.length cP) (.slice aQ qs.length cQ) (.slice aL ls.length cL)) 27 (0, 0)) := by rw [← hW49, blk_set _ _ _ _ (by show q0 ≠ pkz; omega)]; exact rkB
    have ykc : mblk W49 (pkc) = some (.cells #[.int .i64 lc, .int .i64 hc] 23 (0, 0)) := by rw [← hW49, blk_set _ _ _ _ (by show pkc ≠ pkz; omega)]; exact rkc
    have ykp : mblk W49 (gp2) = some (.cells CP 23 (0, 0)) := by rw [← hW49, blk_set _ _ _ _ (by show gp2 ≠ pkz; omega)]; exact rkp
    try rw [hW49]
    clear hW49 x3 zx own1 own3 U2 U1 own0 IX1 grow1 U hpe rkB jkB kB rkc jkc kc rkz jkz kz rkp jkp kp
    have U := U4
    have kz := jx4
    clear U4 jx4
    have kB := ykB
    clear ykB
    have kc := ykc
    clear ykc
    have kp := ykp
    clear ykp
    try clear hW48
    go_loopw [25] (fun m wr => ∃ j : Nat, j ≤ ls.length ∧ m = .int .i64 j ∧ Hid (T.Own5 wr pe a3 ls.length c3 (T.shj (T.his who) bq ls j)) ∧ Up w wr ∧ mblk wr (q0) = some (.cells (BoC (N : Int) bl bh rl rh (.slice (some ⟨gP, oP, none⟩) ps.length cP) (.slice aQ qs.length cQ) (.slice aL ls.length cL)) 27 (0, 0)) ∧ mblk wr (pkc) = some (.cells #[.int .i64 lc, .int .i64 hc] 23 (0, 0)) ∧ mblk wr (pkz) = some (.cells (BoC (N : Int) bl bh rl rh (.slice (some ⟨gp2, 0, none⟩) ps.length cp2) (.slice aQ qs.length cQ) (.slice a3 ls.length c3)) 27 (0, 0)) ∧ mblk wr (gp2) = some (.cells CP 23 (0, 0))) (fun m _ => ls.length - (intOf m).toNat)
    case atStart => exact ⟨0, Nat.zero_le _, rfl, Lib.hid (by rw [T.shj_0]; exact HO.out), U, kB, kc, kz, kp⟩
    case round =>
      clear U kB kc kz kp HO
      obtain ⟨j, hj, rfl, HO, U, kB, kc, kz, kp⟩ := hrel
      by_cases hlt : j < ls.length
      · skip
        skip
        have ew : IntKind.i64.wrap ((j : Int) + 1) = (j : Int) + 1 := IntWalk.i64_in _ (by have := HL4.out.2.2; omega)
        have ilt : (j : Int) < (ls.length : Int) := by omega
        obtain ⟨a'', c'', e'', _, _, hm⟩ := (HK.out w (Up.refl w)).is
        injection e'' with ea eb ec
        clear eb ec
        obtain ⟨gE, oE, ga, glE, hxE⟩ := hm (by omega)
        subst ea ga
        clear hm
        obtain ⟨⟨r0, r1, r2, r3, r4⟩, hss⟩ : ∃ s, ls.getD j (0, 0, 0, 0, 0) = s := ⟨_, rfl⟩
        have hrd := T.look_rd HV.out hlt hss
        have z3 : IntKind.i64.wrap (r3 + bq) = r3 + bq := IntWalk.i64_in _ (by have := HBQ.out; omega)
        have d0 : wr.cell? ⟨gE, oE + j * 5, none⟩ = some (.int .i64 r0) := by have := hxE j hlt 0 (by omega); rw [hss] at this; exact (U.facts.1 gE _ glE).trans this
        have d1 : wr.cell? ⟨gE, oE + j * 5 + 1, none⟩ = some (.int .i64 r1) := by have := hxE j hlt 1 (by omega); rw [hss] at this; exact (U.facts.1 gE _ glE).trans this
        have d2 : wr.cell? ⟨gE, oE + j * 5 + 2, none⟩ = some (.int .i64 r2) := by have := hxE j hlt 2 (by omega); rw [hss] at this; exact (U.facts.1 gE _ glE).trans this
        have d3 : wr.cell? ⟨gE, oE + j * 5 + 3, none⟩ = some (.int .i64 r3) := by have := hxE j hlt 3 (by omega); rw [hss] at this; exact (U.facts.1 gE _ glE).trans this
        have d4 : wr.cell? ⟨gE, oE + j * 5 + 4, none⟩ = some (.int .i64 r4) := by have := hxE j hlt 4 (by omega); rw [hss] at this; exact (U.facts.1 gE _ glE).trans this
        clear hxE glE
        have hlen := T.shj_len (c := (T.his who)) (b := bq) (ls := ls) (j := j) hj
        have hst := T.shj_step (c := (T.his who)) (b := bq) hlt
        have hat := T.shj_at (c := (T.his who)) (b := bq) hlt
        rw [hss] at hst hat
        obtain ⟨IX2, hO⟩ := HO.out
        obtain ⟨g2, cur, ga, hg2, kg, hz2⟩ := hO (by omega)
        subst ga
        clear hO
        have cg0 : cur[j * 5]? = some (.int .i64 r0) := by have := Tab.at0 IX2 (j := j) (by omega) 0 (by omega); rw [hat] at this; exact (cellB kg _).symm.trans this
        have cg1 : cur[j * 5 + 1]? = some (.int .i64 r1) := by have := Tab.at0 IX2 (j := j) (by omega) 1 (by omega); rw [hat] at this; exact (cellB kg _).symm.trans this
        have cg2 : cur[j * 5 + 2]? = some (.int .i64 r2) := by have := Tab.at0 IX2 (j := j) (by omega) 2 (by omega); rw [hat] at this; exact (cellB kg _).symm.trans this
        have cg3 : cur[j * 5 + 3]? = some (.int .i64 r3) := by have := Tab.at0 IX2 (j := j) (by omega) 3 (by omega); rw [hat] at this; exact (cellB kg _).symm.trans this
        have cg4 : cur[j * 5 + 4]? = some (.int .i64 r4) := by have := Tab.at0 IX2 (j := j) (by omega) 4 (by omega); rw [hat] at this; exact (cellB kg _).symm.trans this
        have IX2' : Tab 5 T.encL (0, 0, 0, 0, 0) wr (.slice (some ⟨g2, 0, none⟩) (T.shj (T.his who) bq ls j).length c3) (T.shj (T.his who) bq ls j) := by rw [hlen]; exact IX2
        have HX2 := Lib.hid IX2'
        have HST := Lib.hid (And.intro hlen (And.intro hst (And.intro hz2 hg2)))
        clear IX2 IX2' hat hst hlen hz2 HO hss
        have mkB : q0 < g2 := by omega
        have mkc : pkc < g2 := by omega
        have mkz : pkz < g2 := by omega
        have mkp : gp2 < g2 := by omega
        have Uz := Up.refl wr
        have i_kB := kB
        have i_kc := kc
        have i_kz := kz
        have i_kp := kp
        have i_kg := kg
        have dkBky := blk_lt kB
        have dkcky := blk_lt kc
        have dkzky := blk_lt kz
        have dkpky := blk_lt kp
        have dkgky := blk_lt kg
        have gky := U.size
        have ky := blk_new wr (.cells #[.int .i64 r0, .int .i64 r1, .int .i64 r2, .int .i64 r3, .int .i64 r4] 63) _ rfl
        replace kB := blk_keep (.cells #[.int .i64 r0, .int .i64 r1, .int .i64 r2, .int .i64 r3, .int .i64 r4] 63) kB
        replace kc := blk_keep (.cells #[.int .i64 r0, .int .i64 r1, .int .i64 r2, .int .i64 r3, .int .i64 r4] 63) kc
        replace kz := blk_keep (.cells #[.int .i64 r0, .int .i64 r1, .int .i64 r2, .int .i64 r3, .int .i64 r4] 63) kz
        replace kp := blk_keep (.cells #[.int .i64 r0, .int .i64 r1, .int .i64 r2, .int .i64 r3, .int .i64 r4] 63) kp
        replace kg := blk_keep (.cells #[.int .i64 r0, .int .i64 r1, .int .i64 r2, .int .i64 r3, .int .i64 r4] 63) kg
        replace U := U.alloc (.cells #[.int .i64 r0, .int .i64 r1, .int .i64 r2, .int .i64 r3, .int .i64 r4] 63)
        replace Uz := Uz.alloc (.cells #[.int .i64 r0, .int .i64 r1, .int .i64 r2, .int .i64 r3, .int .i64 r4] 63)
        obtain ⟨pky, hpky⟩ : ∃ z, wr.heap.size = z := ⟨_, rfl⟩
        obtain ⟨W150, hW150⟩ : ∃ z, wr.alloc (.cells #[.int .i64 r0, .int .i64 r1, .int .i64 r2, .int .i64 r3, .int .i64 r4] 63) = z := ⟨_, rfl⟩
        rw [hpky] at ky dkBky dkcky dkzky dkpky dkgky gky
        rw [hW150] at ky U kB kc kz kp kg Uz
        skip
        have gz : wr.heap.size ≤ pky := by omega
        go_upto_region 36 with fail
        clear hpky hW150 i_kB i_kc i_kz i_kp i_kg d0 d1 d2 d3 d4
        rcases hrd with ⟨rfl | rfl, _⟩
        · by_cases hwq : r2 = (who : Int)
          · skip
            skip
            have dwq : (r2 == (who : Int)) = true := beq_iff_eq.2 hwq
            have Hwq := Lib.hid hwq
            clear hwq
            go_upto_region 37 with fail
            have zf := frozB ky
            have i0 := ky
            have U1 := (U.set (p := ⟨pky, 3, none⟩) (show w.heap.size ≤ pky by omega) (.int .i64 (r3 + bq)))
            have VUz := (Uz.set (p := ⟨pky, 3, none⟩) (show wr.heap.size ≤ pky by omega) (.int .i64 (r3 + bq)))
            have jkB := kB
            rw [← blk_set (W150) ⟨pky, 3, none⟩ (.int .i64 (r3 + bq)) (q0) (by show q0 ≠ pky; omega)] at jkB
            have jkc := kc
            rw [← blk_set (W150) ⟨pky, 3, none⟩ (.int .i64 (r3 + bq)) (pkc) (by show pkc ≠ pky; omega)] at jkc
            have jkz := kz
            rw [← blk_set (W150) ⟨pky, 3, none⟩ (.int .i64 (r3 + bq)) (pkz) (by show pkz ≠ pky; omega)] at jkz
            have jkp := kp
            rw [← blk_set (W150) ⟨pky, 3, none⟩ (.int .i64 (r3 + bq)) (gp2) (by show gp2 ≠ pky; omega)] at jkp
            have jkg := kg
            rw [← blk_set (W150) ⟨pky, 3, none⟩ (.int .i64 (r3 + bq)) (g2) (by show g2 ≠ pky; omega)] at jkg
            have jky : mblk ((W150).setCell ⟨pky, 3, none⟩ (.int .i64 (r3 + bq))) pky = some (.cells #[.int .i64 r0, .int .i64 0, .int .i64 r2, .int .i64 (r3 + bq), .int .i64 r4] 63 (0, 0)) := (blk_put ky 3 (.int .i64 (r3 + bq)))
            obtain ⟨W251, hW251⟩ : ∃ z, (W150).setCell ⟨pky, 3, none⟩ (.int .i64 (r3 + bq)) = z := ⟨_, rfl⟩
            rw [hW251] at jkB jkc jkz jkp jkg jky U1 VUz
            clear Uz
            have Uz := VUz
            clear VUz
            clear kB kc kz kp kg ky U
            have kB := jkB
            have kc := jkc
            have kz := jkz
            have kp := jkp
            have kg := jkg
            have ky := jky
            have U := U1
            clear jkB jkc jkz jkp jkg jky U1
            go_upto_region 38 with fail
            clear hW251 zf i0
            have zg := frozB kg
            have sg0 : W251.cell? ⟨g2, j * 5, none⟩ = some (.int .i64 r0) := (cellB kg _).trans cg0
            have sg1 : W251.cell? ⟨g2, j * 5 + 1, none⟩ = some (.int .i64 0) := (cellB kg _).trans cg1
            have sg2 : W251.cell? ⟨g2, j * 5 + 2, none⟩ = some (.int .i64 r2) := (cellB kg _).trans cg2
            have sg3 : W251.cell? ⟨g2, j * 5 + 3, none⟩ = some (.int .i64 r3) := (cellB kg _).trans cg3
            have sg4 : W251.cell? ⟨g2, j * 5 + 4, none⟩ = some (.int .i64 r4) := (cellB kg _).trans cg4
            have n01 : ¬ j * 5 = j * 5 + 1 := by omega
            have n02 : ¬ j * 5 = j * 5 + 2 := by omega
            have n03 : ¬ j * 5 = j * 5 + 3 := by omega
            have n04 : ¬ j * 5 = j * 5 + 4 := by omega
            have n12 : ¬ j * 5 + 1 = j * 5 + 2 := by omega
            have n13 : ¬ j * 5 + 1 = j * 5 + 3 := by omega
            have n14 : ¬ j * 5 + 1 = j * 5 + 4 := by omega
            have n23 : ¬ j * 5 + 2 = j * 5 + 3 := by omega
            have n24 : ¬ j * 5 + 2 = j * 5 + 4 := by omega
            have n34 : ¬ j * 5 + 3 = j * 5 + 4 := by omega
            have IX2 := HX2.out.up Uz
            go_wp2_with fail
            have jg : mblk (((((W251.setCell ⟨g2, j * 5, none⟩ (.int .i64 r0)).setCell ⟨g2, j * 5 + 1, none⟩ (.int .i64 0)).setCell ⟨g2, j * 5 + 2, none⟩ (.int .i64 r2)).setCell ⟨g2, j * 5 + 3, none⟩ (.int .i64 (r3 + bq))).setCell ⟨g2, j * 5 + 4, none⟩ (.int .i64 r4)) g2 = some (.cells (((((cur.setIfInBounds (j * 5) (.int .i64 r0)).setIfInBounds (j * 5 + 1) (.int .i64 0)).setIfInBounds (j * 5 + 2) (.int .i64 r2)).setIfInBounds (j * 5 + 3) (.int .i64 (r3 + bq))).setIfInBounds (j * 5 + 4) (.int .i64 r4)) 63 (0, 0)) := (blk_put (blk_put (blk_put (blk_put (blk_put kg _ (.int .i64 r0)) _ (.int .i64 0)) _ (.int .i64 r2)) _ (.int .i64 (r3 + bq))) _ (.int .i64 r4))
            have IX3 := Tab.put5 (a := r0) (b := 0) (c' := r2) (e := (r3 + bq)) (f := r4) (x := (r0, 0, r2, (r3 + bq), r4)) IX2 kg (by have h1 := HST.out.1; have h2 := HST.out.2.2.1; omega) (by rw [HST.out.1]; exact hlt) rfl rfl rfl rfl rfl
            have U5 := (((((U.set (p := ⟨g2, j * 5, none⟩) (show w.heap.size ≤ g2 by omega) (.int .i64 r0)).set (p := ⟨g2, j * 5 + 1, none⟩) (show w.heap.size ≤ g2 by omega) (.int .i64 0)).set (p := ⟨g2, j * 5 + 2, none⟩) (show w.heap.size ≤ g2 by omega) (.int .i64 r2)).set (p := ⟨g2, j * 5 + 3, none⟩) (show w.heap.size ≤ g2 by omega) (.int .i64 (r3 + bq))).set (p := ⟨g2, j * 5 + 4, none⟩) (show w.heap.size ≤ g2 by omega) (.int .i64 r4))
            have jkB : mblk (((((W251.setCell ⟨g2, j * 5, none⟩ (.int .i64 r0)).setCell ⟨g2, j * 5 + 1, none⟩ (.int .i64 0)).setCell ⟨g2, j * 5 + 2, none⟩ (.int .i64 r2)).setCell ⟨g2, j * 5 + 3, none⟩ (.int .i64 (r3 + bq))).setCell ⟨g2, j * 5 + 4, none⟩ (.int .i64 r4)) (q0) = some (.cells (BoC (N : Int) bl bh rl rh (.slice (some ⟨gP, oP, none⟩) ps.length cP) (.slice aQ qs.length cQ) (.slice (some ⟨gE, oE, none⟩) ls.length cL)) 27 (0, 0)) := by rw [blk_set _ _ _ _ (by show q0 ≠ g2; omega), blk_set _ _ _ _ (by show q0 ≠ g2; omega), blk_set _ _ _ _ (by show q0 ≠ g2; omega), blk_set _ _ _ _ (by show q0 ≠ g2; omega), blk_set _ _ _ _ (by show q0 ≠ g2; omega)]; exact kB
            have jkc : mblk (((((W251.setCell ⟨g2, j * 5, none⟩ (.int .i64 r0)).setCell ⟨g2, j * 5 + 1, none⟩ (.int .i64 0)).setCell ⟨g2, j * 5 + 2, none⟩ (.int .i64 r2)).setCell ⟨g2, j * 5 + 3, none⟩ (.int .i64 (r3 + bq))).setCell ⟨g2, j * 5 + 4, none⟩ (.int .i64 r4)) (pkc) = some (.cells #[.int .i64 lc, .int .i64 hc] 23 (0, 0)) := by rw [blk_set _ _ _ _ (by show pkc ≠ g2; omega), blk_set _ _ _ _ (by show pkc ≠ g2; omega), blk_set _ _ _ _ (by show pkc ≠ g2; omega), blk_set _ _ _ _ (by show pkc ≠ g2; omega), blk_set _ _ _ _ (by show pkc ≠ g2; omega)]; exact kc
            have jkz : mblk (((((W251.setCell ⟨g2, j * 5, none⟩ (.int .i64 r0)).setCell ⟨g2, j * 5 + 1, none⟩ (.int .i64 0)).setCell ⟨g2, j * 5 + 2, none⟩ (.int .i64 r2)).setCell ⟨g2, j * 5 + 3, none⟩ (.int .i64 (r3 + bq))).setCell ⟨g2, j * 5 + 4, none⟩ (.int .i64 r4)) (pkz) = some (.cells (BoC (N : Int) bl bh rl rh (.slice (some ⟨gp2, 0, none⟩) ps.length cp2) (.slice aQ qs.length cQ) (.slice (some ⟨g2, 0, none⟩) ls.length c3)) 27 (0, 0)) := by rw [blk_set _ _ _ _ (by show pkz ≠ g2; omega), blk_set _ _ _ _ (by show pkz ≠ g2; omega), blk_set _ _ _ _ (by show pkz ≠ g2; omega), blk_set _ _ _ _ (by show pkz ≠ g2; omega), blk_set _ _ _ _ (by show pkz ≠ g2; omega)]; exact kz
            have jkp : mblk (((((W251.setCell ⟨g2, j * 5, none⟩ (.int .i64 r0)).setCell ⟨g2, j * 5 + 1, none⟩ (.int .i64 0)).setCell ⟨g2, j * 5 + 2, none⟩ (.int .i64 r2)).setCell ⟨g2, j * 5 + 3, none⟩ (.int .i64 (r3 + bq))).setCell ⟨g2, j * 5 + 4, none⟩ (.int .i64 r4)) (gp2) = some (.cells CP 23 (0, 0)) := by rw [blk_set _ _ _ _ (by show gp2 ≠ g2; omega), blk_set _ _ _ _ (by show gp2 ≠ g2; omega), blk_set _ _ _ _ (by show gp2 ≠ g2; omega), blk_set _ _ _ _ (by show gp2 ≠ g2; omega), blk_set _ _ _ _ (by show gp2 ≠ g2; omega)]; exact kp
            have jky : mblk (((((W251.setCell ⟨g2, j * 5, none⟩ (.int .i64 r0)).setCell ⟨g2, j * 5 + 1, none⟩ (.int .i64 0)).setCell ⟨g2, j * 5 + 2, none⟩ (.int .i64 r2)).setCell ⟨g2, j * 5 + 3, none⟩ (.int .i64 (r3 + bq))).setCell ⟨g2, j * 5 + 4, none⟩ (.int .i64 r4)) (pky) = some (.cells #[.int .i64 r0, .int .i64 0, .int .i64 r2, .int .i64 (r3 + bq), .int .i64 r4] 63 (0, 0)) := by rw [blk_set _ _ _ _ (by show pky ≠ g2; omega), blk_set _ _ _ _ (by show pky ≠ g2; omega), blk_set _ _ _ _ (by show pky ≠ g2; omega), blk_set _ _ _ _ (by show pky ≠ g2; omega), blk_set _ _ _ _ (by show pky ≠ g2; omega)]; exact ky
            obtain ⟨W252, hW252⟩ : ∃ z, (((((W251.setCell ⟨g2, j * 5, none⟩ (.int .i64 r0)).setCell ⟨g2, j * 5 + 1, none⟩ (.int .i64 0)).setCell ⟨g2, j * 5 + 2, none⟩ (.int .i64 r2)).setCell ⟨g2, j * 5 + 3, none⟩ (.int .i64 (r3 + bq))).setCell ⟨g2, j * 5 + 4, none⟩ (.int .i64 r4)) = z := ⟨_, rfl⟩
            rw [hW252] at IX3 U5 jg jkB jkc jkz jkp jky
            try rw [hW252]
            rw [show (r0, (0 : Int), r2, r3 + bq, r4) = T.shl (T.his who) bq (r0, 0, r2, r3, r4) from by unfold T.shl T.his; rw [if_pos (by simp [Hwq.out])], HST.out.2.1, HST.out.1] at IX3
            have HO := Lib.hid (show T.Own5 W252 pe (some ⟨g2, 0, none⟩) ls.length c3 (T.shj (T.his who) bq ls (j + 1)) from ⟨IX3, fun _ => ⟨g2, _, rfl, HST.out.2.2.2, jg, by simp only [Array.size_setIfInBounds]; exact HST.out.2.2.1⟩⟩)
            clear jg IX3
            clear kB kc kz kp ky U kg IX2 Uz z3 zg sg0 cg0 sg1 cg1 sg2 cg2 sg3 cg3 sg4 cg4 n01 n02 n03 n04 n12 n13 n14 n23 n24 n34
            have U := U5
            have kB := jkB
            have kc := jkc
            have kz := jkz
            have kp := jkp
            have ky := jky
            clear U5 jkB jkc jkz jkp jky
            try clear hW252
            go_roundw
            case rel => exact ⟨j + 1, by omega, by go_num, HO, U, kB, kc, kz, kp⟩
            case measure => (simp only [intOf]; omega)
          · skip
            skip
            have dwq : (r2 == (who : Int)) = false := by rw [beq_eq_false_iff_ne]; exact hwq
            go_upto_region 38 with fail
            have zg := frozB kg
            have sg0 : W150.cell? ⟨g2, j * 5, none⟩ = some (.int .i64 r0) := (cellB kg _).trans cg0
            have sg1 : W150.cell? ⟨g2, j * 5 + 1, none⟩ = some (.int .i64 0) := (cellB kg _).trans cg1
            have sg2 : W150.cell? ⟨g2, j * 5 + 2, none⟩ = some (.int .i64 r2) := (cellB kg _).trans cg2
            have sg3 : W150.cell? ⟨g2, j * 5 + 3, none⟩ = some (.int .i64 r3) := (cellB kg _).trans cg3
            have sg4 : W150.cell? ⟨g2, j * 5 + 4, none⟩ = some (.int .i64 r4) := (cellB kg _).trans cg4
            have n01 : ¬ j * 5 = j * 5 + 1 := by omega
            have n02 : ¬ j * 5 = j * 5 + 2 := by omega
            have n03 : ¬ j * 5 = j * 5 + 3 := by omega
            have n04 : ¬ j * 5 = j * 5 + 4 := by omega
            have n12 : ¬ j * 5 + 1 = j * 5 + 2 := by omega
            have n13 : ¬ j * 5 + 1 = j * 5 + 3 := by omega
            have n14 : ¬ j * 5 + 1 = j * 5 + 4 := by omega
            have n23 : ¬ j * 5 + 2 = j * 5 + 3 := by omega
            have n24 : ¬ j * 5 + 2 = j * 5 + 4 := by omega
            have n34 : ¬ j * 5 + 3 = j * 5 + 4 := by omega
            have IX2 := HX2.out.up Uz
            go_wp2_with fail
            have jg : mblk (((((W150.setCell ⟨g2, j * 5, none⟩ (.int .i64 r0)).setCell ⟨g2, j * 5 + 1, none⟩ (.int .i64 0)).setCell ⟨g2, j * 5 + 2, none⟩ (.int .i64 r2)).setCell ⟨g2, j * 5 + 3, none⟩ (.int .i64 r3)).setCell ⟨g2, j * 5 + 4, none⟩ (.int .i64 r4)) g2 = some (.cells (((((cur.setIfInBounds (j * 5) (.int .i64 r0)).setIfInBounds (j * 5 + 1) (.int .i64 0)).setIfInBounds (j * 5 + 2) (.int .i64 r2)).setIfInBounds (j * 5 + 3) (.int .i64 r3)).setIfInBounds (j * 5 + 4) (.int .i64 r4)) 63 (0, 0)) := (blk_put (blk_put (blk_put (blk_put (blk_put kg _ (.int .i64 r0)) _ (.int .i64 0)) _ (.int .i64 r2)) _ (.int .i64 r3)) _ (.int .i64 r4))
            have IX3 := Tab.put5 (a := r0) (b := 0) (c' := r2) (e := r3) (f := r4) (x := (r0, 0, r2, r3, r4)) IX2 kg (by have h1 := HST.out.1; have h2 := HST.out.2.2.1; omega) (by rw [HST.out.1]; exact hlt) rfl rfl rfl rfl rfl
            have U5 := (((((U.set (p := ⟨g2, j * 5, none⟩) (show w.heap.size ≤ g2 by omega) (.int .i64 r0)).set (p := ⟨g2, j * 5 + 1, none⟩) (show w.heap.size ≤ g2 by omega) (.int .i64 0)).set (p := ⟨g2, j * 5 + 2, none⟩) (show w.heap.size ≤ g2 by omega) (.int .i64 r2)).set (p := ⟨g2, j * 5 + 3, none⟩) (show w.heap.size ≤ g2 by omega) (.int .i64 r3)).set (p := ⟨g2, j * 5 + 4, none⟩) (show w.heap.size ≤ g2 by omega) (.int .i64 r4))
            have jkB : mblk (((((W150.setCell ⟨g2, j * 5, none⟩ (.int .i64 r0)).setCell ⟨g2, j * 5 + 1, none⟩ (.int .i64 0)).setCell ⟨g2, j * 5 + 2, none⟩ (.int .i64 r2)).setCell ⟨g2, j * 5 + 3, none⟩ (.int .i64 r3)).setCell ⟨g2, j * 5 + 4, none⟩ (.int .i64 r4)) (q0) = some (.cells (BoC (N : Int) bl bh rl rh (.slice (some ⟨gP, oP, none⟩) ps.length cP) (.slice aQ qs.length cQ) (.slice (some ⟨gE, oE, none⟩) ls.length cL)) 27 (0, 0)) := by rw [blk_set _ _ _ _ (by show q0 ≠ g2; omega), blk_set _ _ _ _ (by show q0 ≠ g2; omega), blk_set _ _ _ _ (by show q0 ≠ g2; omega), blk_set _ _ _ _ (by show q0 ≠ g2; omega), blk_set _ _ _ _ (by show q0 ≠ g2; omega)]; exact kB
            have jkc : mblk (((((W150.setCell ⟨g2, j * 5, none⟩ (.int .i64 r0)).setCell ⟨g2, j * 5 + 1, none⟩ (.int .i64 0)).setCell ⟨g2, j * 5 + 2, none⟩ (.int .i64 r2)).setCell ⟨g2, j * 5 + 3, none⟩ (.int .i64 r3)).setCell ⟨g2, j * 5 + 4, none⟩ (.int .i64 r4)) (pkc) = some (.cells #[.int .i64 lc, .int .i64 hc] 23 (0, 0)) := by rw [blk_set _ _ _ _ (by show pkc ≠ g2; omega), blk_set _ _ _ _ (by show pkc ≠ g2; omega), blk_set _ _ _ _ (by show pkc ≠ g2; omega), blk_set _ _ _ _ (by show pkc ≠ g2; omega), blk_set _ _ _ _ (by show pkc ≠ g2; omega)]; exact kc
            have jkz : mblk (((((W150.setCell ⟨g2, j * 5, none⟩ (.int .i64 r0)).setCell ⟨g2, j * 5 + 1, none⟩ (.int .i64 0)).setCell ⟨g2, j * 5 + 2, none⟩ (.int .i64 r2)).setCell ⟨g2, j * 5 + 3, none⟩ (.int .i64 r3)).setCell ⟨g2, j * 5 + 4, none⟩ (.int .i64 r4)) (pkz) = some (.cells (BoC (N : Int) bl bh rl rh (.slice (some ⟨gp2, 0, none⟩) ps.length cp2) (.slice aQ qs.length cQ) (.slice (some ⟨g2, 0, none⟩) ls.length c3)) 27 (0, 0)) := by rw [blk_set _ _ _ _ (by show pkz ≠ g2; omega), blk_set _ _ _ _ (by show pkz ≠ g2; omega), blk_set _ _ _ _ (by show pkz ≠ g2; omega), blk_set _ _ _ _ (by show pkz ≠ g2; omega), blk_set _ _ _ _ (by show pkz ≠ g2; omega)]; exact kz
            have jkp : mblk (((((W150.setCell ⟨g2, j * 5, none⟩ (.int .i64 r0)).setCell ⟨g2, j * 5 + 1, none⟩ (.int .i64 0)).setCell ⟨g2, j * 5 + 2, none⟩ (.int .i64 r2)).setCell ⟨g2, j * 5 + 3, none⟩ (.int .i64 r3)).setCell ⟨g2, j * 5 + 4, none⟩ (.int .i64 r4)) (gp2) = some (.cells CP 23 (0, 0)) := by rw [blk_set _ _ _ _ (by show gp2 ≠ g2; omega), blk_set _ _ _ _ (by show gp2 ≠ g2; omega), blk_set _ _ _ _ (by show gp2 ≠ g2; omega), blk_set _ _ _ _ (by show gp2 ≠ g2; omega), blk_set _ _ _ _ (by show gp2 ≠ g2; omega)]; exact kp
            have jky : mblk (((((W150.setCell ⟨g2, j * 5, none⟩ (.int .i64 r0)).setCell ⟨g2, j * 5 + 1, none⟩ (.int .i64 0)).setCell ⟨g2, j * 5 + 2, none⟩ (.int .i64 r2)).setCell ⟨g2, j * 5 + 3, none⟩ (.int .i64 r3)).setCell ⟨g2, j * 5 + 4, none⟩ (.int .i64 r4)) (pky) = some (.cells #[.int .i64 r0, .int .i64 0, .int .i64 r2, .int .i64 r3, .int .i64 r4] 63 (0, 0)) := by rw [blk_set _ _ _ _ (by show pky ≠ g2; omega), blk_set _ _ _ _ (by show pky ≠ g2; omega), blk_set _ _ _ _ (by show pky ≠ g2; omega), blk_set _ _ _ _ (by show pky ≠ g2; omega), blk_set _ _ _ _ (by show pky ≠ g2; omega)]; exact ky
            obtain ⟨W251, hW251⟩ : ∃ z, (((((W150.setCell ⟨g2, j * 5, none⟩ (.int .i64 r0)).setCell ⟨g2, j * 5 + 1, none⟩ (.int .i64 0)).setCell ⟨g2, j * 5 + 2, none⟩ (.int .i64 r2)).setCell ⟨g2, j * 5 + 3, none⟩ (.int .i64 r3)).setCell ⟨g2, j * 5 + 4, none⟩ (.int .i64 r4)) = z := ⟨_, rfl⟩
            rw [hW251] at IX3 U5 jg jkB jkc jkz jkp jky
            try rw [hW251]
            rw [show (r0, (0 : Int), r2, r3, r4) = T.shl (T.his who) bq (r0, 0, r2, r3, r4) from by unfold T.shl T.his; rw [if_neg (by simp [hwq])], HST.out.2.1, HST.out.1] at IX3
            have HO := Lib.hid (show T.Own5 W251 pe (some ⟨g2, 0, none⟩) ls.length c3 (T.shj (T.his who) bq ls (j + 1)) from ⟨IX3, fun _ => ⟨g2, _, rfl, HST.out.2.2.2, jg, by simp only [Array.size_setIfInBounds]; exact HST.out.2.2.1⟩⟩)
            clear jg IX3
            clear kB kc kz kp ky U kg IX2 Uz z3 zg sg0 cg0 sg1 cg1 sg2 cg2 sg3 cg3 sg4 cg4 n01 n02 n03 n04 n12 n13 n14 n23 n24 n34
            have U := U5
            have kB := jkB
            have kc := jkc
            have kz := jkz
            have kp := jkp
            have ky := jky
            clear U5 jkB jkc jkz jkp jky
            try clear hW251
            go_roundw
            case rel => exact ⟨j + 1, by omega, by go_num, HO, U, kB, kc, kz, kp⟩
            case measure => (simp only [intOf]; omega)
        · skip
          skip
          skip
          go_upto_region 38 with fail
          have zg := frozB kg
          have sg0 : W150.cell? ⟨g2, j * 5, none⟩ = some (.int .i64 r0) := (cellB kg _).trans cg0
          have sg1 : W150.cell? ⟨g2, j * 5 + 1, none⟩ = some (.int .i64 1) := (cellB kg _).trans cg1
          have sg2 : W150.cell? ⟨g2, j * 5 + 2, none⟩ = some (.int .i64 r2) := (cellB kg _).trans cg2
          have sg3 : W150.cell? ⟨g2, j * 5 + 3, none⟩ = some (.int .i64 r3) := (cellB kg _).trans cg3
          have sg4 : W150.cell? ⟨g2, j * 5 + 4, none⟩ = some (.int .i64 r4) := (cellB kg _).trans cg4
          have n01 : ¬ j * 5 = j * 5 + 1 := by omega
          have n02 : ¬ j * 5 = j * 5 + 2 := by omega
          have n03 : ¬ j * 5 = j * 5 + 3 := by omega
          have n04 : ¬ j * 5 = j * 5 + 4 := by omega
          have n12 : ¬ j * 5 + 1 = j * 5 + 2 := by omega
          have n13 : ¬ j * 5 + 1 = j * 5 + 3 := by omega
          have n14 : ¬ j * 5 + 1 = j * 5 + 4 := by omega
          have n23 : ¬ j * 5 + 2 = j * 5 + 3 := by omega
          have n24 : ¬ j * 5 + 2 = j * 5 + 4 := by omega
          have n34 : ¬ j * 5 + 3 = j * 5 + 4 := by omega
          have IX2 := HX2.out.up Uz
          go_wp2_with fail
          have jg : mblk (((((W150.setCell ⟨g2, j * 5, none⟩ (.int .i64 r0)).setCell ⟨g2, j * 5 + 1, none⟩ (.int .i64 1)).setCell ⟨g2, j * 5 + 2, none⟩ (.int .i64 r2)).setCell ⟨g2, j * 5 + 3, none⟩ (.int .i64 r3)).setCell ⟨g2, j * 5 + 4, none⟩ (.int .i64 r4)) g2 = some (.cells (((((cur.setIfInBounds (j * 5) (.int .i64 r0)).setIfInBounds (j * 5 + 1) (.int .i64 1)).setIfInBounds (j * 5 + 2) (.int .i64 r2)).setIfInBounds (j * 5 + 3) (.int .i64 r3)).setIfInBounds (j * 5 + 4) (.int .i64 r4)) 63 (0, 0)) := (blk_put (blk_put (blk_put (blk_put (blk_put kg _ (.int .i64 r0)) _ (.int .i64 1)) _ (.int .i64 r2)) _ (.int .i64 r3)) _ (.int .i64 r4))
          have IX3 := Tab.put5 (a := r0) (b := 1) (c' := r2) (e := r3) (f := r4) (x := (r0, 1, r2, r3, r4)) IX2 kg (by have h1 := HST.out.1; have h2 := HST.out.2.2.1; omega) (by rw [HST.out.1]; exact hlt) rfl rfl rfl rfl rfl
          have U5 := (((((U.set (p := ⟨g2, j * 5, none⟩) (show w.heap.size ≤ g2 by omega) (.int .i64 r0)).set (p := ⟨g2, j * 5 + 1, none⟩) (show w.heap.size ≤ g2 by omega) (.int .i64 1)).set (p := ⟨g2, j * 5 + 2, none⟩) (show w.heap.size ≤ g2 by omega) (.int .i64 r2)).set (p := ⟨g2, j * 5 + 3, none⟩) (show w.heap.size ≤ g2 by omega) (.int .i64 r3)).set (p := ⟨g2, j * 5 + 4, none⟩) (show w.heap.size ≤ g2 by omega) (.int .i64 r4))
          have jkB : mblk (((((W150.setCell ⟨g2, j * 5, none⟩ (.int .i64 r0)).setCell ⟨g2, j * 5 + 1, none⟩ (.int .i64 1)).setCell ⟨g2, j * 5 + 2, none⟩ (.int .i64 r2)).setCell ⟨g2, j * 5 + 3, none⟩ (.int .i64 r3)).setCell ⟨g2, j * 5 + 4, none⟩ (.int .i64 r4)) (q0) = some (.cells (BoC (N : Int) bl bh rl rh (.slice (some ⟨gP, oP, none⟩) ps.length cP) (.slice aQ qs.length cQ) (.slice (some ⟨gE, oE, none⟩) ls.length cL)) 27 (0, 0)) := by rw [blk_set _ _ _ _ (by show q0 ≠ g2; omega), blk_set _ _ _ _ (by show q0 ≠ g2; omega), blk_set _ _ _ _ (by show q0 ≠ g2; omega), blk_set _ _ _ _ (by show q0 ≠ g2; omega), blk_set _ _ _ _ (by show q0 ≠ g2; omega)]; exact kB
          have jkc : mblk (((((W150.setCell ⟨g2, j * 5, none⟩ (.int .i64 r0)).setCell ⟨g2, j * 5 + 1, none⟩ (.int .i64 1)).setCell ⟨g2, j * 5 + 2, none⟩ (.int .i64 r2)).setCell ⟨g2, j * 5 + 3, none⟩ (.int .i64 r3)).setCell ⟨g2, j * 5 + 4, none⟩ (.int .i64 r4)) (pkc) = some (.cells #[.int .i64 lc, .int .i64 hc] 23 (0, 0)) := by rw [blk_set _ _ _ _ (by show pkc ≠ g2; omega), blk_set _ _ _ _ (by show pkc ≠ g2; omega), blk_set _ _ _ _ (by show pkc ≠ g2; omega), blk_set _ _ _ _ (by show pkc ≠ g2; omega), blk_set _ _ _ _ (by show pkc ≠ g2; omega)]; exact kc
          have jkz : mblk (((((W150.setCell ⟨g2, j * 5, none⟩ (.int .i64 r0)).setCell ⟨g2, j * 5 + 1, none⟩ (.int .i64 1)).setCell ⟨g2, j * 5 + 2, none⟩ (.int .i64 r2)).setCell ⟨g2, j * 5 + 3, none⟩ (.int .i64 r3)).setCell ⟨g2, j * 5 + 4, none⟩ (.int .i64 r4)) (pkz) = some (.cells (BoC (N : Int) bl bh rl rh (.slice (some ⟨gp2, 0, none⟩) ps.length cp2) (.slice aQ qs.length cQ) (.slice (some ⟨g2, 0, none⟩) ls.length c3)) 27 (0, 0)) := by rw [blk_set _ _ _ _ (by show pkz ≠ g2; omega), blk_set _ _ _ _ (by show pkz ≠ g2; omega), blk_set _ _ _ _ (by show pkz ≠ g2; omega), blk_set _ _ _ _ (by show pkz ≠ g2; omega), blk_set _ _ _ _ (by show pkz ≠ g2; omega)]; exact kz
          have jkp : mblk (((((W150.setCell ⟨g2, j * 5, none⟩ (.int .i64 r0)).setCell ⟨g2, j * 5 + 1, none⟩ (.int .i64 1)).setCell ⟨g2, j * 5 + 2, none⟩ (.int .i64 r2)).setCell ⟨g2, j * 5 + 3, none⟩ (.int .i64 r3)).setCell ⟨g2, j * 5 + 4, none⟩ (.int .i64 r4)) (gp2) = some (.cells CP 23 (0, 0)) := by rw [blk_set _ _ _ _ (by show gp2 ≠ g2; omega), blk_set _ _ _ _ (by show gp2 ≠ g2; omega), blk_set _ _ _ _ (by show gp2 ≠ g2; omega), blk_set _ _ _ _ (by show gp2 ≠ g2; omega), blk_set _ _ _ _ (by show gp2 ≠ g2; omega)]; exact kp
          have jky : mblk (((((W150.setCell ⟨g2, j * 5, none⟩ (.int .i64 r0)).setCell ⟨g2, j * 5 + 1, none⟩ (.int .i64 1)).setCell ⟨g2, j * 5 + 2, none⟩ (.int .i64 r2)).setCell ⟨g2, j * 5 + 3, none⟩ (.int .i64 r3)).setCell ⟨g2, j * 5 + 4, none⟩ (.int .i64 r4)) (pky) = some (.cells #[.int .i64 r0, .int .i64 1, .int .i64 r2, .int .i64 r3, .int .i64 r4] 63 (0, 0)) := by rw [blk_set _ _ _ _ (by show pky ≠ g2; omega), blk_set _ _ _ _ (by show pky ≠ g2; omega), blk_set _ _ _ _ (by show pky ≠ g2; omega), blk_set _ _ _ _ (by show pky ≠ g2; omega), blk_set _ _ _ _ (by show pky ≠ g2; omega)]; exact ky
          obtain ⟨W251, hW251⟩ : ∃ z, (((((W150.setCell ⟨g2, j * 5, none⟩ (.int .i64 r0)).setCell ⟨g2, j * 5 + 1, none⟩ (.int .i64 1)).setCell ⟨g2, j * 5 + 2, none⟩ (.int .i64 r2)).setCell ⟨g2, j * 5 + 3, none⟩ (.int .i64 r3)).setCell ⟨g2, j * 5 + 4, none⟩ (.int .i64 r4)) = z := ⟨_, rfl⟩
          rw [hW251] at IX3 U5 jg jkB jkc jkz jkp jky
          try rw [hW251]
          rw [show (r0, (1 : Int), r2, r3, r4) = T.shl (T.his who) bq (r0, 1, r2, r3, r4) from by unfold T.shl T.his; rw [if_neg (by simp)], HST.out.2.1, HST.out.1] at IX3
          have HO := Lib.hid (show T.Own5 W251 pe (some ⟨g2, 0, none⟩) ls.length c3 (T.shj (T.his who) bq ls (j + 1)) from ⟨IX3, fun _ => ⟨g2, _, rfl, HST.out.2.2.2, jg, by simp only [Array.size_setIfInBounds]; exact HST.out.2.2.1⟩⟩)
          clear jg IX3
          clear kB kc kz kp ky U kg IX2 Uz z3 zg sg0 cg0 sg1 cg1 sg2 cg2 sg3 cg3 sg4 cg4 n01 n02 n03 n04 n12 n13 n14 n23 n24 n34
          have U := U5
          have kB := jkB
          have kc := jkc
          have kz := jkz
          have kp := jkp
          have ky := jky
          clear U5 jkB jkc jkz jkp jky
          try clear hW251
          go_roundw
          case rel => exact ⟨j + 1, by omega, by go_num, HO, U, kB, kc, kz, kp⟩
          case measure => (simp only [intOf]; omega)
      · skip
        skip
        obtain rfl : ls.length = j := by omega
        have ilt : ¬ (ls.length : Int) < (ls.length : Int) := by omega
        have IXx := HO.out.1
        rw [T.shj_all] at IXx
        clear hlt hj HO
        have IPx := HIP.out _ kp
        have HX := Lib.hid (fun w' (u : Up wr w') => And.intro (IPx.up u) (IXx.up u))
        have Ux := Up.refl wr
        have hss := hkw.out.2.out
        have HCk := Lib.hid (fun w' (u : Up wr w') (V : Up w w') => Check_any (M := (N : Int)) (bl := bl) (bh := bh) (rl := rl) (rh := rh) (HX.out _ u).1 (HJ.out _ V) (HX.out _ u).2)
        clear IPx IXx HIP
        go_wp2_with fail
        refine (HCk.out _ Ux U).mono ?_
        rintro e x250 ⟨rfl, u251⟩
        replace U := U.trans u251
        replace kB := u251.blk kB
        replace kc := u251.blk kc
        replace kz := u251.blk kz
        replace kp := u251.blk kp
        replace Ux := Ux.trans u251
        clear u251 HCk
        cases hvx : T.valid (N : Int) bl bh rl rh (ps.set who (p0 + bq, p1 + bq)) qs (ls.map (T.shl (T.his who) bq)) with
        | false =>
          rw [if_neg (by decide)]
          clear hvx Ux HX hss
          go_wp2_with fail
          refine (HW.out _).mono ?_
          rintro e x352 ⟨rfl, u353⟩
          replace U := U.trans u353
          replace kB := u353.blk kB
          replace kc := u353.blk kc
          replace kz := u353.blk kz
          replace kp := u353.blk kp
          clear u353 
          go_wp2
          go_ret
          exact ⟨rfl, U⟩
        | true =>
          rw [if_pos rfl]
          rcases HE.out with rfl | ⟨rfl, _, _⟩
          · skip
            have hww : 0 ≤ (who : Int) ∧ (who : Int) < ps.length := ⟨by omega, by have := hkw.out.1; omega⟩
            obtain ⟨lp, hp, ep, tp, q1, q2, q3⟩ := T.Tells.ex (o := T.o0) (m := 9 + (who : Int)) (i := 0) HV.out (T.al_per hww) T.al_0
            obtain rfl := HT.out.1.same tp
            have B' := T.valid_bok hvx
            have hsp : (p0 + bq, p1 + bq) = ((ps.getD who (0, 0)).1 + bq, (ps.getD who (0, 0)).2 + bq) := by rw [hss]
            have B2 := B'
            rw [hsp] at B2
            obtain ⟨g1, _⟩ := T.his_tells (o := T.o0) (l := lp) (h := hp) (e := 0) (T.valid_bok HV.out) B2 hkw.out.1
            obtain ⟨_, g2'⟩ := T.his_tells (o := T.o0) (l := lc) (h := hc) (e := 0) (T.valid_bok HV.out) B2 hkw.out.1
            have tx := g1 tp
            have ty := g2' i HIK.out.1 HT.out.1
            rw [← hsp] at tx ty
            clear g1 g2' B2 B'
            rw [if_pos rfl, if_pos rfl] at tx ty
            rw [Int.add_zero, Int.add_zero] at ty
            have z5 : IntKind.i64.wrap (lp + bq) = lp + bq := IntWalk.i64_in _ (by have := HBQ.out; omega)
            have z6 : IntKind.i64.wrap (hp + bq) = hp + bq := IntWalk.i64_in _ (by have := HBQ.out; omega)
            have hlw : (ps.set who (p0 + bq, p1 + bq)).length = ps.length := List.length_set ..
            have hww' : 0 ≤ (who : Int) ∧ (who : Int) < (ps.set who (p0 + bq, p1 + bq)).length := by rw [hlw]; exact hww
            have Ca := Lib.hid (fun w' (V : Up w w') => Person_tells HV.out hww tp (HI.out _ V) (HJ.out _ V) (HK.out _ V))
            have Cb := Lib.hid (fun w' (u : Up wr w') (V : Up w w') => Person_tells hvx hww' tx (HX.out _ u).1 (HJ.out _ V) (HX.out _ u).2)
            have Cd := Lib.hid (fun w' (u : Up wr w') (V : Up w w') => Offset_tells hvx HIK.out.1 ty (HX.out _ u).1 (HJ.out _ V) (HX.out _ u).2)
            clear tp tx ty hvx hlw hww hww' hss hsp q1 q2 q3
            go_wp2_with fail
            refine (Ca.out _ U).mono ?_
            rintro e x352 ⟨rfl, u353⟩
            replace U := U.trans u353
            replace kB := u353.blk kB
            replace kc := u353.blk kc
            replace kz := u353.blk kz
            replace kp := u353.blk kp
            replace Ux := Ux.trans u353
            clear u353 
            have dkBkr := blk_lt kB
            have dkckr := blk_lt kc
            have dkzkr := blk_lt kz
            have dkpkr := blk_lt kp
            have gkr := U.size
            have kr := blk_new x352 (.cells #[.int .i64 lp, .int .i64 hp] 23) _ rfl
            replace kB := blk_keep (.cells #[.int .i64 lp, .int .i64 hp] 23) kB
            replace kc := blk_keep (.cells #[.int .i64 lp, .int .i64 hp] 23) kc
            replace kz := blk_keep (.cells #[.int .i64 lp, .int .i64 hp] 23) kz
            replace kp := blk_keep (.cells #[.int .i64 lp, .int .i64 hp] 23) kp
            replace U := U.alloc (.cells #[.int .i64 lp, .int .i64 hp] 23)
            replace Ux := Ux.alloc (.cells #[.int .i64 lp, .int .i64 hp] 23)
            obtain ⟨pkr, hpkr⟩ : ∃ z, x352.heap.size = z := ⟨_, rfl⟩
            obtain ⟨W354, hW354⟩ : ∃ z, x352.alloc (.cells #[.int .i64 lp, .int .i64 hp] 23) = z := ⟨_, rfl⟩
            rw [hpkr] at kr dkBkr dkckr dkzkr dkpkr gkr
            rw [hW354] at kr U kB kc kz kp Ux
            go_wp2_with fail
            clear hpkr hW354
            refine (Cb.out _ Ux U).mono ?_
            rintro e x355 ⟨rfl, u356⟩
            replace U := U.trans u356
            replace kB := u356.blk kB
            replace kc := u356.blk kc
            replace kz := u356.blk kz
            replace kp := u356.blk kp
            replace kr := u356.blk kr
            replace Ux := Ux.trans u356
            clear u356 
            have dkBks := blk_lt kB
            have dkcks := blk_lt kc
            have dkzks := blk_lt kz
            have dkpks := blk_lt kp
            have dkrks := blk_lt kr
            have gks := U.size
            have ks := blk_new x355 (.cells #[.int .i64 (lp + bq), .int .i64 (hp + bq)] 23) _ rfl
            replace kB := blk_keep (.cells #[.int .i64 (lp + bq), .int .i64 (hp + bq)] 23) kB
            replace kc := blk_keep (.cells #[.int .i64 (lp + bq), .int .i64 (hp + bq)] 23) kc
            replace kz := blk_keep (.cells #[.int .i64 (lp + bq), .int .i64 (hp + bq)] 23) kz
            replace kp := blk_keep (.cells #[.int .i64 (lp + bq), .int .i64 (hp + bq)] 23) kp
            replace kr := blk_keep (.cells #[.int .i64 (lp + bq), .int .i64 (hp + bq)] 23) kr
            replace U := U.alloc (.cells #[.int .i64 (lp + bq), .int .i64 (hp + bq)] 23)
            replace Ux := Ux.alloc (.cells #[.int .i64 (lp + bq), .int .i64 (hp + bq)] 23)
            obtain ⟨pks, hpks⟩ : ∃ z, x355.heap.size = z := ⟨_, rfl⟩
            obtain ⟨W357, hW357⟩ : ∃ z, x355.alloc (.cells #[.int .i64 (lp + bq), .int .i64 (hp + bq)] 23) = z := ⟨_, rfl⟩
            rw [hpks] at ks dkBks dkcks dkzks dkpks dkrks gks
            rw [hW357] at ks U kB kc kz kp kr Ux
            go_wp2_with fail
            clear hpks hW357
            refine (Cd.out _ Ux U).mono ?_
            rintro e x358 ⟨rfl, u359⟩
            replace U := U.trans u359
            replace kB := u359.blk kB
            replace kc := u359.blk kc
            replace kz := u359.blk kz
            replace kp := u359.blk kp
            replace kr := u359.blk kr
            replace ks := u359.blk ks
            replace Ux := Ux.trans u359
            clear u359 
            have dkBkt := blk_lt kB
            have dkckt := blk_lt kc
            have dkzkt := blk_lt kz
            have dkpkt := blk_lt kp
            have dkrkt := blk_lt kr
            have dkskt := blk_lt ks
            have gkt := U.size
            have kt := blk_new x358 (.cells #[.int .i64 lc, .int .i64 hc] 23) _ rfl
            replace kB := blk_keep (.cells #[.int .i64 lc, .int .i64 hc] 23) kB
            replace kc := blk_keep (.cells #[.int .i64 lc, .int .i64 hc] 23) kc
            replace kz := blk_keep (.cells #[.int .i64 lc, .int .i64 hc] 23) kz
            replace kp := blk_keep (.cells #[.int .i64 lc, .int .i64 hc] 23) kp
            replace kr := blk_keep (.cells #[.int .i64 lc, .int .i64 hc] 23) kr
            replace ks := blk_keep (.cells #[.int .i64 lc, .int .i64 hc] 23) ks
            replace U := U.alloc (.cells #[.int .i64 lc, .int .i64 hc] 23)
            replace Ux := Ux.alloc (.cells #[.int .i64 lc, .int .i64 hc] 23)
            obtain ⟨pkt, hpkt⟩ : ∃ z, x358.heap.size = z := ⟨_, rfl⟩
            obtain ⟨W360, hW360⟩ : ∃ z, x358.alloc (.cells #[.int .i64 lc, .int .i64 hc] 23) = z := ⟨_, rfl⟩
            rw [hpkt] at kt dkBkt dkckt dkzkt dkpkt dkrkt dkskt gkt
            rw [hW360] at kt U kB kc kz kp kr ks Ux
            go_wp2_with fail
            clear hpkt hW360
            have F362 := Lib.hid (fun w (u : Up W360 w) => cellB (u.blk kB))
            have F363 := Lib.hid (fun w (u : Up W360 w) => cellB (u.blk kc))
            have F364 := Lib.hid (fun w (u : Up W360 w) => cellB (u.blk kz))
            have F365 := Lib.hid (fun w (u : Up W360 w) => cellB (u.blk kp))
            have F366 := Lib.hid (fun w (u : Up W360 w) => cellB (u.blk kr))
            have F367 := Lib.hid (fun w (u : Up W360 w) => cellB (u.blk ks))
            have F368 := Lib.hid (fun w (u : Up W360 w) => cellB (u.blk kt))
            refine (wpIn_wide (n := 5)).1 ?_
            refine wpIn_nrm ?_
            refine T.regionQ (fun w' => Up W360 w') 38 1 hmx (by kernel_rfl) (by kernel_rfl) ((Up.refl W360).drew) (fun hCl => ?_)
            refine T.qT 0 (some 272) ?v22 rfl rfl hCl ?hy22 (fun hCl' => ?_)
            case hy22 => (intro w hSw; refine T.qVal ?_ hSw; (try dsimp only [List.getElem_toArray, List.getElem_cons_succ, List.getElem_cons_zero]); go_simp; try with_reducible rfl)
            simp only [Act.put, List.setIfInBounds_toArray, List.set_cons_zero, List.set_cons_succ]; replace hCl := hCl'; clear hCl'
            refine T.qT 1 (some 273) ?v23 rfl rfl hCl ?hy23 (fun hCl' => ?_)
            case hy23 => (intro w hSw; refine T.qVal ?_ hSw; (try dsimp only [List.getElem_toArray, List.getElem_cons_succ, List.getElem_cons_zero]); go_simp; try with_reducible rfl)
            simp only [Act.put, List.setIfInBounds_toArray, List.set_cons_zero, List.set_cons_succ]; replace hCl := hCl'; clear hCl'
            refine T.qT 2 (some 274) ?v24 rfl rfl hCl ?hy24 (fun hCl' => ?_)
            case hy24 => (intro w hSw; refine T.qVal ?_ hSw; (try dsimp only [List.getElem_toArray, List.getElem_cons_succ, List.getElem_cons_zero]); go_simp; try with_reducible rfl)
            simp only [Act.put, List.setIfInBounds_toArray, List.set_cons_zero, List.set_cons_succ]; replace hCl := hCl'; clear hCl'
            refine T.qT 3 (some 275) ?v25 rfl rfl hCl ?hy25 (fun hCl' => ?_)
            case hy25 => (intro w hSw; refine T.qVal ?_ hSw; (try dsimp only [List.getElem_toArray, List.getElem_cons_succ, List.getElem_cons_zero]); go_simp; try with_reducible rfl)
            simp only [Act.put, List.setIfInBounds_toArray, List.set_cons_zero, List.set_cons_succ]; replace hCl := hCl'; clear hCl'
            refine T.qT 4 (some 276) ?v26 rfl rfl hCl ?hy26 (fun hCl' => ?_)
            case hy26 => (intro w hSw; refine T.qVal ?_ hSw; (try dsimp only [List.getElem_toArray, List.getElem_cons_succ, List.getElem_cons_zero]); go_simp; try with_reducible rfl)
            simp only [Act.put, List.setIfInBounds_toArray, List.set_cons_zero, List.set_cons_succ]; replace hCl := hCl'; clear hCl'
            refine T.qT 5 (some 277) ?v27 rfl rfl hCl ?hy27 (fun hCl' => ?_)
            case hy27 => (intro w hSw; refine T.qVal ?_ hSw; (try dsimp only [List.getElem_toArray, List.getElem_cons_succ, List.getElem_cons_zero]); go_simp; try with_reducible rfl)
            simp only [Act.put, List.setIfInBounds_toArray, List.set_cons_zero, List.set_cons_succ]; replace hCl := hCl'; clear hCl'
            refine T.qT 6 (some 278) ?v28 rfl rfl hCl ?hy28 (fun hCl' => ?_)
            case hy28 => (intro w hSw; refine T.qVal ?_ hSw; (try dsimp only [List.getElem_toArray, List.getElem_cons_succ, List.getElem_cons_zero]); go_simp; try with_reducible rfl)
            simp only [Act.put, List.setIfInBounds_toArray, List.set_cons_zero, List.set_cons_succ]; replace hCl := hCl'; clear hCl'
            refine T.qT 7 (some 279) ?v29 rfl rfl hCl ?hy29 (fun hCl' => ?_)
            case hy29 => (intro w hSw; refine T.qVal ?_ hSw; (try dsimp only [List.getElem_toArray, List.getElem_cons_succ, List.getElem_cons_zero]); go_simp; try with_reducible rfl)
            simp only [Act.put, List.setIfInBounds_toArray, List.set_cons_zero, List.set_cons_succ]; replace hCl := hCl'; clear hCl'
            refine T.qT 8 (some 280) ?v30 rfl rfl hCl ?hy30 (fun hCl' => ?_)
            case hy30 => (intro w hSw; refine T.qVal ?_ hSw; (try dsimp only [List.getElem_toArray, List.getElem_cons_succ, List.getElem_cons_zero]); go_simp; try with_reducible rfl)
            simp only [Act.put, List.setIfInBounds_toArray, List.set_cons_zero, List.set_cons_succ]; replace hCl := hCl'; clear hCl'
            refine T.qT 9 (some 281) ?v31 rfl rfl hCl ?hy31 (fun hCl' => ?_)
            case hy31 => (intro w hSw; refine T.qVal ?_ hSw; (try dsimp only [List.getElem_toArray, List.getElem_cons_succ, List.getElem_cons_zero]); go_simp; try with_reducible rfl)
            simp only [Act.put, List.setIfInBounds_toArray, List.set_cons_zero, List.set_cons_succ]; replace hCl := hCl'; clear hCl'
            refine T.qT 10 (some 282) ?v32 rfl rfl hCl ?hy32 (fun hCl' => ?_)
            case hy32 => (intro w hSw; refine T.qVal ?_ hSw; (try dsimp only [List.getElem_toArray, List.getElem_cons_succ, List.getElem_cons_zero]); go_simp; try with_reducible rfl)
            simp only [Act.put, List.setIfInBounds_toArray, List.set_cons_zero, List.set_cons_succ]; replace hCl := hCl'; clear hCl'
            refine T.qT 11 (some 283) ?v33 rfl rfl hCl ?hy33 (fun hCl' => ?_)
            case hy33 => (intro w hSw; refine T.qVal ?_ hSw; (try dsimp only [List.getElem_toArray, List.getElem_cons_succ, List.getElem_cons_zero]); go_simp; try with_reducible rfl)
            simp only [Act.put, List.setIfInBounds_toArray, List.set_cons_zero, List.set_cons_succ]; replace hCl := hCl'; clear hCl'
            refine T.qT 12 (some 284) ?v34 rfl rfl hCl ?hy34 (fun hCl' => ?_)
            case hy34 => (intro w hSw; refine T.qVal ?_ hSw; (try dsimp only [List.getElem_toArray, List.getElem_cons_succ, List.getElem_cons_zero]); go_simp; try with_reducible rfl)
            simp only [Act.put, List.setIfInBounds_toArray, List.set_cons_zero, List.set_cons_succ]; replace hCl := hCl'; clear hCl'
            refine T.qT 13 (some 285) ?v35 rfl rfl hCl ?hy35 (fun hCl' => ?_)
            case hy35 => (intro w hSw; refine T.qVal ?_ hSw; (try dsimp only [List.getElem_toArray, List.getElem_cons_succ, List.getElem_cons_zero]); go_simp; try with_reducible rfl)
            simp only [Act.put, List.setIfInBounds_toArray, List.set_cons_zero, List.set_cons_succ]; replace hCl := hCl'; clear hCl'
            refine T.qT 14 (some 286) ?v36 rfl rfl hCl ?hy36 (fun hCl' => ?_)
            case hy36 => (intro w hSw; refine T.qVal ?_ hSw; (have fF362 := F362.out w hSw; have fF363 := F363.out w hSw; have fF364 := F364.out w hSw; have fF365 := F365.out w hSw; have fF366 := F366.out w hSw; have fF367 := F367.out w hSw; have fF368 := F368.out w hSw); (try dsimp only [List.getElem_toArray, List.getElem_cons_succ, List.getElem_cons_zero]); go_simp; try with_reducible rfl)
            simp only [Act.put, List.setIfInBounds_toArray, List.set_cons_zero, List.set_cons_succ]; replace hCl := hCl'; clear hCl'
            refine T.qT 15 (some 287) ?v37 rfl rfl hCl ?hy37 (fun hCl' => ?_)
            case hy37 => (intro w hSw; refine T.qVal ?_ hSw; (have fF362 := F362.out w hSw; have fF363 := F363.out w hSw; have fF364 := F364.out w hSw; have fF365 := F365.out w hSw; have fF366 := F366.out w hSw; have fF367 := F367.out w hSw; have fF368 := F368.out w hSw); (try dsimp only [List.getElem_toArray, List.getElem_cons_succ, List.getElem_cons_zero]); go_simp; try with_reducible rfl)
            simp only [Act.put, List.setIfInBounds_toArray, List.set_cons_zero, List.set_cons_succ]; replace hCl := hCl'; clear hCl'
            refine T.qT 16 (some 288) ?v38 rfl rfl hCl ?hy38 (fun hCl' => ?_)
            case hy38 => (intro w hSw; refine T.qVal ?_ hSw; (try dsimp only [List.getElem_toArray, List.getElem_cons_succ, List.getElem_cons_zero]); go_simp; try with_reducible rfl)
            simp only [Act.put, List.setIfInBounds_toArray, List.set_cons_zero, List.set_cons_succ]; replace hCl := hCl'; clear hCl'
            refine T.qT 17 (some 289) ?v39 rfl rfl hCl ?hy39 (fun hCl' => ?_)
            case hy39 => (intro w hSw; refine T.qVal ?_ hSw; (try dsimp only [List.getElem_toArray, List.getElem_cons_succ, List.getElem_cons_zero]); go_simp; try with_reducible rfl)
            simp only [Act.put, List.setIfInBounds_toArray, List.set_cons_zero, List.set_cons_succ]; replace hCl := hCl'; clear hCl'
            refine T.qT 18 (some 290) ?v40 rfl rfl hCl ?hy40 (fun hCl' => ?_)
            case hy40 => (intro w hSw; refine T.qVal ?_ hSw; (try dsimp only [List.getElem_toArray, List.getElem_cons_succ, List.getElem_cons_zero]); go_simp; try with_reducible rfl)
            simp only [Act.put, List.setIfInBounds_toArray, List.set_cons_zero, List.set_cons_succ]; replace hCl := hCl'; clear hCl'
            refine T.qT 19 (some 291) ?v41 rfl rfl hCl ?hy41 (fun hCl' => ?_)
            case hy41 => (intro w hSw; refine T.qVal ?_ hSw; (try dsimp only [List.getElem_toArray, List.getElem_cons_succ, List.getElem_cons_zero]); go_simp; try with_reducible rfl)
            simp only [Act.put, List.setIfInBounds_toArray, List.set_cons_zero, List.set_cons_succ]; replace hCl := hCl'; clear hCl'
            refine T.qT 20 (some 292) ?v42 rfl rfl hCl ?hy42 (fun hCl' => ?_)
            case hy42 => (intro w hSw; refine T.qVal ?_ hSw; (try dsimp only [List.getElem_toArray, List.getElem_cons_succ, List.getElem_cons_zero]); go_simp; try with_reducible rfl)
            simp only [Act.put, List.setIfInBounds_toArray, List.set_cons_zero, List.set_cons_succ]; replace hCl := hCl'; clear hCl'
            refine T.qT 21 (some 293) ?v43 rfl rfl hCl ?hy43 (fun hCl' => ?_)
            case hy43 => (intro w hSw; refine T.qVal ?_ hSw; (try dsimp only [List.getElem_toArray, List.getElem_cons_succ, List.getElem_cons_zero]); go_simp; try with_reducible rfl)
            simp only [Act.put, List.setIfInBounds_toArray, List.set_cons_zero, List.set_cons_succ]; replace hCl := hCl'; clear hCl'
            refine T.qT 22 (some 294) ?v44 rfl rfl hCl ?hy44 (fun hCl' => ?_)
            case hy44 => (intro w hSw; refine T.qVal ?_ hSw; (have fF362 := F362.out w hSw; have fF363 := F363.out w hSw; have fF364 := F364.out w hSw; have fF365 := F365.out w hSw; have fF366 := F366.out w hSw; have fF367 := F367.out w hSw; have fF368 := F368.out w hSw); (try dsimp only [List.getElem_toArray, List.getElem_cons_succ, List.getElem_cons_zero]); go_simp; try with_reducible rfl)
            simp only [Act.put, List.setIfInBounds_toArray, List.set_cons_zero, List.set_cons_succ]; replace hCl := hCl'; clear hCl'
            refine T.qT 23 (some 295) ?v45 rfl rfl hCl ?hy45 (fun hCl' => ?_)
            case hy45 => (intro w hSw; refine T.qVal ?_ hSw; (try dsimp only [List.getElem_toArray, List.getElem_cons_succ, List.getElem_cons_zero]); go_simp; try with_reducible rfl)
            simp only [Act.put, List.setIfInBounds_toArray, List.set_cons_zero, List.set_cons_succ]; replace hCl := hCl'; clear hCl'
            refine T.qT 25 (some 297) ?v46 rfl rfl hCl ?hy46 (fun hCl' => ?_)
            case hy46 => (intro w hSw; refine T.qVal ?_ hSw; (try dsimp only [List.getElem_toArray, List.getElem_cons_succ, List.getElem_cons_zero]); go_simp; try with_reducible rfl)
            simp only [Act.put, List.setIfInBounds_toArray, List.set_cons_zero, List.set_cons_succ]; replace hCl := hCl'; clear hCl'
            refine T.qT 27 (some 299) ?v47 rfl rfl hCl ?hy47 (fun hCl' => ?_)
            case hy47 => (intro w hSw; refine T.qVal ?_ hSw; (try dsimp only [List.getElem_toArray, List.getElem_cons_succ, List.getElem_cons_zero]); go_simp; try with_reducible rfl)
            simp only [Act.put, List.setIfInBounds_toArray, List.set_cons_zero, List.set_cons_succ]; replace hCl := hCl'; clear hCl'
            refine T.qT 29 (some 301) ?v48 rfl rfl hCl ?hy48 (fun hCl' => ?_)
            case hy48 => (intro w hSw; refine T.qVal ?_ hSw; (try dsimp only [List.getElem_toArray, List.getElem_cons_succ, List.getElem_cons_zero]); go_simp; try with_reducible rfl)
            simp only [Act.put, List.setIfInBounds_toArray, List.set_cons_zero, List.set_cons_succ]; replace hCl := hCl'; clear hCl'
            refine T.qT 24 (some 296) ?v49 rfl rfl hCl ?hy49 (fun hCl' => ?_)
            case hy49 => (intro w hSw; refine T.qVal ?_ hSw; (have fF362 := F362.out w hSw; have fF363 := F363.out w hSw; have fF364 := F364.out w hSw; have fF365 := F365.out w hSw; have fF366 := F366.out w hSw; have fF367 := F367.out w hSw; have fF368 := F368.out w hSw); (try dsimp only [List.getElem_toArray, List.getElem_cons_succ, List.getElem_cons_zero]); go_simp; try with_reducible rfl)
            simp only [Act.put, List.setIfInBounds_toArray, List.set_cons_zero, List.set_cons_succ]; replace hCl := hCl'; clear hCl'
            refine T.qT 28 (some 300) ?v50 rfl rfl hCl ?hy50 (fun hCl' => ?_)
            case hy50 => (intro w hSw; refine T.qVal ?_ hSw; (have fF362 := F362.out w hSw; have fF363 := F363.out w hSw; have fF364 := F364.out w hSw; have fF365 := F365.out w hSw; have fF366 := F366.out w hSw; have fF367 := F367.out w hSw; have fF368 := F368.out w hSw); (try dsimp only [List.getElem_toArray, List.getElem_cons_succ, List.getElem_cons_zero]); go_simp; try with_reducible rfl)
            simp only [Act.put, List.setIfInBounds_toArray, List.set_cons_zero, List.set_cons_succ]; replace hCl := hCl'; clear hCl'
            refine T.qT 26 (some 298) ?v51 rfl rfl hCl ?hy51 (fun hCl' => ?_)
            case hy51 => (intro w hSw; refine T.qVal ?_ hSw; (try dsimp only [List.getElem_toArray, List.getElem_cons_succ, List.getElem_cons_zero]); go_simp; try with_reducible rfl)
            simp only [Act.put, List.setIfInBounds_toArray, List.set_cons_zero, List.set_cons_succ]; replace hCl := hCl'; clear hCl'
            refine T.qT 30 (some 302) ?v52 rfl rfl hCl ?hy52 (fun hCl' => ?_)
            case hy52 => (intro w hSw; refine T.qVal ?_ hSw; (try dsimp only [List.getElem_toArray, List.getElem_cons_succ, List.getElem_cons_zero]); go_simp; try with_reducible rfl)
            simp only [Act.put, List.setIfInBounds_toArray, List.set_cons_zero, List.set_cons_succ]; replace hCl := hCl'; clear hCl'
            refine T.qT 31 (some 303) ((SpV (lp + bq) (hp + bq))) rfl rfl hCl ?hy53 (fun hCl' => ?_)
            case hy53 => (intro w hSw; (have fF362 := F362.out w hSw; have fF363 := F363.out w hSw; have fF364 := F364.out w hSw; have fF365 := F365.out w hSw; have fF366 := F366.out w hSw; have fF367 := F367.out w hSw; have fF368 := F368.out w hSw); (try dsimp only [List.getElem_toArray, List.getElem_cons_succ, List.getElem_cons_zero]); go_simp; (refine (callsIn_wide.2 (HTo.out _ _ w)).mono ?_; rintro e w3 ⟨rfl, u3⟩; exact ⟨rfl, hSw.trans u3⟩))
            simp only [Act.put, List.setIfInBounds_toArray, List.set_cons_zero, List.set_cons_succ]
            replace hCl := hCl'; clear hCl'
            refine T.qT 32 (some 304) ?v54 rfl rfl hCl ?hy54 (fun hCl' => ?_)
            case hy54 => (intro w hSw; refine T.qVal ?_ hSw; (try dsimp only [List.getElem_toArray, List.getElem_cons_succ, List.getElem_cons_zero]); go_simp; try with_reducible rfl)
            simp only [Act.put, List.setIfInBounds_toArray, List.set_cons_zero, List.set_cons_succ]; replace hCl := hCl'; clear hCl'
            refine T.qT 33 (some 305) ?v55 rfl rfl hCl ?hy55 (fun hCl' => ?_)
            case hy55 => (intro w hSw; refine T.qVal ?_ hSw; (try dsimp only [List.getElem_toArray, List.getElem_cons_succ, List.getElem_cons_zero]); go_simp; try with_reducible rfl)
            simp only [Act.put, List.setIfInBounds_toArray, List.set_cons_zero, List.set_cons_succ]; replace hCl := hCl'; clear hCl'
            refine T.qT 34 (some 306) ?v56 rfl rfl hCl ?hy56 (fun hCl' => ?_)
            case hy56 => (intro w hSw; refine T.qVal ?_ hSw; (try dsimp only [List.getElem_toArray, List.getElem_cons_succ, List.getElem_cons_zero]); go_simp; try with_reducible rfl)
            simp only [Act.put, List.setIfInBounds_toArray, List.set_cons_zero, List.set_cons_succ]; replace hCl := hCl'; clear hCl'
            refine T.qT 35 (some 307) ?v57 rfl rfl hCl ?hy57 (fun hCl' => ?_)
            case hy57 => (intro w hSw; refine T.qVal ?_ hSw; (try dsimp only [List.getElem_toArray, List.getElem_cons_succ, List.getElem_cons_zero]); go_simp; try with_reducible rfl)
            simp only [Act.put, List.setIfInBounds_toArray, List.set_cons_zero, List.set_cons_succ]; replace hCl := hCl'; clear hCl'
            refine T.qT 36 (some 308) ((.bool true)) rfl rfl hCl ?hy58 (fun hCl' => ?_)
            case hy58 => (intro w hSw; (have fF362 := F362.out w hSw; have fF363 := F363.out w hSw; have fF364 := F364.out w hSw; have fF365 := F365.out w hSw; have fF366 := F366.out w hSw; have fF367 := F367.out w hSw; have fF368 := F368.out w hSw); (try dsimp only [List.getElem_toArray, List.getElem_cons_succ, List.getElem_cons_zero]); go_simp; (refine (callsIn_wide.2 (HW.out w)).mono ?_; rintro e w3 ⟨rfl, u3⟩; exact ⟨rfl, hSw.trans u3⟩))
            simp only [Act.put, List.setIfInBounds_toArray, List.set_cons_zero, List.set_cons_succ]
            replace hCl := hCl'; clear hCl'
            refine T.qT 37 (some 309) ?v59 rfl rfl hCl ?hy59 (fun hCl' => ?_)
            case hy59 => (intro w hSw; refine T.qVal ?_ hSw; (try dsimp only [List.getElem_toArray, List.getElem_cons_succ, List.getElem_cons_zero]); go_simp; try with_reducible rfl)
            simp only [Act.put, List.setIfInBounds_toArray, List.set_cons_zero, List.set_cons_succ]; replace hCl := hCl'; clear hCl'
            refine T.tail_intro (by kernel_rfl) (fun Y361 hY361 => ?_)
            replace U := U.trans hY361
            replace kB := hY361.blk kB
            replace kc := hY361.blk kc
            replace kz := hY361.blk kz
            replace kp := hY361.blk kp
            replace kr := hY361.blk kr
            replace ks := hY361.blk ks
            replace kt := hY361.blk kt
            replace Ux := Ux.trans hY361
            clear F362 F363 F364 F365 F366 F367 F368 hY361
            refine lastG (i := 38) (by kernel_rfl) rfl (by rfl) (by decide) (fun K hK => ?_)
            go_simp
            refine hK.out _ _ ?_
            clear hK K
            refine doneG (by kernel_rfl) ?_ _
            refine S.nrm_intro ?_
            go_wp2
            go_ret
            exact ⟨rfl, U⟩
          · skip
            obtain ⟨_, rfl, rfl, _⟩ := HT.out.1.no (by decide)
            have hww : 0 ≤ (who : Int) ∧ (who : Int) < ps.length := ⟨by omega, by have := hkw.out.1; omega⟩
            obtain ⟨lp, hp, ep, tp, q1, q2, q3⟩ := T.Tells.ex (o := T.o0) (m := 9 + (who : Int)) (i := 0) HV.out (T.al_per hww) T.al_0
            obtain rfl := HT.out.1.same tp
            have B' := T.valid_bok hvx
            have hsp : (p0 + bq, p1 + bq) = ((ps.getD who (0, 0)).1 + bq, (ps.getD who (0, 0)).2 + bq) := by rw [hss]
            have B2 := B'
            rw [hsp] at B2
            obtain ⟨g1, _⟩ := T.his_tells (o := T.o0) (l := lp) (h := hp) (e := 32) (T.valid_bok HV.out) B2 hkw.out.1
            obtain ⟨_, g2'⟩ := T.his_tells (o := T.o0) (l := 0) (h := 0) (e := 32) (T.valid_bok HV.out) B2 hkw.out.1
            have tx := g1 tp
            have ty := g2' i HIK.out.1 HT.out.1
            rw [← hsp] at tx ty
            clear g1 g2' B2 B'
            obtain ⟨_, rfl, rfl, _⟩ := tp.no (by decide)
            rw [if_neg (by decide)] at tx ty
            have hlw : (ps.set who (p0 + bq, p1 + bq)).length = ps.length := List.length_set ..
            have hww' : 0 ≤ (who : Int) ∧ (who : Int) < (ps.set who (p0 + bq, p1 + bq)).length := by rw [hlw]; exact hww
            have Ca := Lib.hid (fun w' (V : Up w w') => Person_tells HV.out hww tp (HI.out _ V) (HJ.out _ V) (HK.out _ V))
            have Cb := Lib.hid (fun w' (u : Up wr w') (V : Up w w') => Person_tells hvx hww' tx (HX.out _ u).1 (HJ.out _ V) (HX.out _ u).2)
            have Cd := Lib.hid (fun w' (u : Up wr w') (V : Up w w') => Offset_tells hvx HIK.out.1 ty (HX.out _ u).1 (HJ.out _ V) (HX.out _ u).2)
            clear tp tx ty hvx hlw hww hww' hss hsp q1 q2 q3
            go_wp2_with fail
            refine (Ca.out _ U).mono ?_
            rintro e x352 ⟨rfl, u353⟩
            replace U := U.trans u353
            replace kB := u353.blk kB
            replace kc := u353.blk kc
            replace kz := u353.blk kz
            replace kp := u353.blk kp
            replace Ux := Ux.trans u353
            clear u353 
            have dkBkr := blk_lt kB
            have dkckr := blk_lt kc
            have dkzkr := blk_lt kz
            have dkpkr := blk_lt kp
            have gkr := U.size
            have kr := blk_new x352 (.cells #[.int .i64 0, .int .i64 0] 23) _ rfl
            replace kB := blk_keep (.cells #[.int .i64 0, .int .i64 0] 23) kB
            replace kc := blk_keep (.cells #[.int .i64 0, .int .i64 0] 23) kc
            replace kz := blk_keep (.cells #[.int .i64 0, .int .i64 0] 23) kz
            replace kp := blk_keep (.cells #[.int .i64 0, .int .i64 0] 23) kp
            replace U := U.alloc (.cells #[.int .i64 0, .int .i64 0] 23)
            replace Ux := Ux.alloc (.cells #[.int .i64 0, .int .i64 0] 23)
            go_wp2_with fail
            obtain ⟨pkr, hpkr⟩ : ∃ z, x352.heap.size = z := ⟨_, rfl⟩
            obtain ⟨W354, hW354⟩ : ∃ z, x352.alloc (.cells #[.int .i64 0, .int .i64 0] 23) = z := ⟨_, rfl⟩
            rw [hpkr] at kr dkBkr dkckr dkzkr dkpkr gkr
            rw [hW354] at kr U kB kc kz kp Ux
            rw [hW354, hpkr]
            go_wp2_with fail
            clear hpkr hW354
            refine (Cb.out _ Ux U).mono ?_
            rintro e x355 ⟨rfl, u356⟩
            replace U := U.trans u356
            replace kB := u356.blk kB
            replace kc := u356.blk kc
            replace kz := u356.blk kz
            replace kp := u356.blk kp
            replace kr := u356.blk kr
            replace Ux := Ux.trans u356
            clear u356 
            have dkBks := blk_lt kB
            have dkcks := blk_lt kc
            have dkzks := blk_lt kz
            have dkpks := blk_lt kp
            have dkrks := blk_lt kr
            have gks := U.size
            have ks := blk_new x355 (.cells #[.int .i64 0, .int .i64 0] 23) _ rfl
            replace kB := blk_keep (.cells #[.int .i64 0, .int .i64 0] 23) kB
            replace kc := blk_keep (.cells #[.int .i64 0, .int .i64 0] 23) kc
            replace kz := blk_keep (.cells #[.int .i64 0, .int .i64 0] 23) kz
            replace kp := blk_keep (.cells #[.int .i64 0, .int .i64 0] 23) kp
            replace kr := blk_keep (.cells #[.int .i64 0, .int .i64 0] 23) kr
            replace U := U.alloc (.cells #[.int .i64 0, .int .i64 0] 23)
            replace Ux := Ux.alloc (.cells #[.int .i64 0, .int .i64 0] 23)
            go_wp2_with fail
            obtain ⟨pks, hpks⟩ : ∃ z, x355.heap.size = z := ⟨_, rfl⟩
            obtain ⟨W357, hW357⟩ : ∃ z, x355.alloc (.cells #[.int .i64 0, .int .i64 0] 23) = z := ⟨_, rfl⟩
            rw [hpks] at ks dkBks dkcks dkzks dkpks dkrks gks
            rw [hW357] at ks U kB kc kz kp kr Ux
            rw [hW357, hpks]
            go_wp2_with fail
            clear hpks hW357
            refine (Cd.out _ Ux U).mono ?_
            rintro e x358 ⟨rfl, u359⟩
            replace U := U.trans u359
            replace kB := u359.blk kB
            replace kc := u359.blk kc
            replace kz := u359.blk kz
            replace kp := u359.blk kp
            replace kr := u359.blk kr
            replace ks := u359.blk ks
            replace Ux := Ux.trans u359
            clear u359 
            have dkBkt := blk_lt kB
            have dkckt := blk_lt kc
            have dkzkt := blk_lt kz
            have dkpkt := blk_lt kp
            have dkrkt := blk_lt kr
            have dkskt := blk_lt ks
            have gkt := U.size
            have kt := blk_new x358 (.cells #[.int .i64 0, .int .i64 0] 23) _ rfl
            replace kB := blk_keep (.cells #[.int .i64 0, .int .i64 0] 23) kB
            replace kc := blk_keep (.cells #[.int .i64 0, .int .i64 0] 23) kc
            replace kz := blk_keep (.cells #[.int .i64 0, .int .i64 0] 23) kz
            replace kp := blk_keep (.cells #[.int .i64 0, .int .i64 0] 23) kp
            replace kr := blk_keep (.cells #[.int .i64 0, .int .i64 0] 23) kr
            replace ks := blk_keep (.cells #[.int .i64 0, .int .i64 0] 23) ks
            replace U := U.alloc (.cells #[.int .i64 0, .int .i64 0] 23)
            replace Ux := Ux.alloc (.cells #[.int .i64 0, .int .i64 0] 23)
            go_wp2_with fail
            obtain ⟨pkt, hpkt⟩ : ∃ z, x358.heap.size = z := ⟨_, rfl⟩
            obtain ⟨W360, hW360⟩ : ∃ z, x358.alloc (.cells #[.int .i64 0, .int .i64 0] 23) = z := ⟨_, rfl⟩
            rw [hpkt] at kt dkBkt dkckt dkzkt dkpkt dkrkt dkskt gkt
            rw [hW360] at kt U kB kc kz kp kr ks Ux
            rw [hW360, hpkt]
            go_wp2_with fail
            clear hpkt hW360
            have F362 := Lib.hid (fun w (u : Up W360 w) => cellB (u.blk kB))
            have F363 := Lib.hid (fun w (u : Up W360 w) => cellB (u.blk kc))
            have F364 := Lib.hid (fun w (u : Up W360 w) => cellB (u.blk kz))
            have F365 := Lib.hid (fun w (u : Up W360 w) => cellB (u.blk kp))
            have F366 := Lib.hid (fun w (u : Up W360 w) => cellB (u.blk kr))
            have F367 := Lib.hid (fun w (u : Up W360 w) => cellB (u.blk ks))
            have F368 := Lib.hid (fun w (u : Up W360 w) => cellB (u.blk kt))
            refine (wpIn_wide (n := 5)).1 ?_
            refine wpIn_nrm ?_
            refine T.regionQ (fun w' => Up W360 w') 38 1 hmx (by kernel_rfl) (by kernel_rfl) ((Up.refl W360).drew) (fun hCl => ?_)
            refine T.qT 0 (some 272) ?v60 rfl rfl hCl ?hy60 (fun hCl' => ?_)
            case hy60 => (intro w hSw; refine T.qVal ?_ hSw; (try dsimp only [List.getElem_toArray, List.getElem_cons_succ, List.getElem_cons_zero]); go_simp; try with_reducible rfl)
            simp only [Act.put, List.setIfInBounds_toArray, List.set_cons_zero, List.set_cons_succ]; replace hCl := hCl'; clear hCl'
            refine T.qT 1 (some 273) ?v61 rfl rfl hCl ?hy61 (fun hCl' => ?_)
            case hy61 => (intro w hSw; refine T.qVal ?_ hSw; (try dsimp only [List.getElem_toArray, List.getElem_cons_succ, List.getElem_cons_zero]); go_simp; try with_reducible rfl)
            simp only [Act.put, List.setIfInBounds_toArray, List.set_cons_zero, List.set_cons_succ]; replace hCl := hCl'; clear hCl'
            refine T.qT 2 (some 274) ?v62 rfl rfl hCl ?hy62 (fun hCl' => ?_)
            case hy62 => (intro w hSw; refine T.qVal ?_ hSw; (try dsimp only [List.getElem_toArray, List.getElem_cons_succ, List.getElem_cons_zero]); go_simp; try with_reducible rfl)
            simp only [Act.put, List.setIfInBounds_toArray, List.set_cons_zero, List.set_cons_succ]; replace hCl := hCl'; clear hCl'
            refine T.qT 3 (some 275) ?v63 rfl rfl hCl ?hy63 (fun hCl' => ?_)
            case hy63 => (intro w hSw; refine T.qVal ?_ hSw; (try dsimp only [List.getElem_toArray, List.getElem_cons_succ, List.getElem_cons_zero]); go_simp; try with_reducible rfl)
            simp only [Act.put, List.setIfInBounds_toArray, List.set_cons_zero, List.set_cons_succ]; replace hCl := hCl'; clear hCl'
            refine T.qT 4 (some 276) ?v64 rfl rfl hCl ?hy64 (fun hCl' => ?_)
            case hy64 => (intro w hSw; refine T.qVal ?_ hSw; (try dsimp only [List.getElem_toArray, List.getElem_cons_succ, List.getElem_cons_zero]); go_simp; try with_reducible rfl)
            simp only [Act.put, List.setIfInBounds_toArray, List.set_cons_zero, List.set_cons_succ]; replace hCl := hCl'; clear hCl'
            refine T.qT 5 (some 277) ?v65 rfl rfl hCl ?hy65 (fun hCl' => ?_)
            case hy65 => (intro w hSw; refine T.qVal ?_ hSw; (try dsimp only [List.getElem_toArray, List.getElem_cons_succ, List.getElem_cons_zero]); go_simp; try with_reducible rfl)
            simp only [Act.put, List.setIfInBounds_toArray, List.set_cons_zero, List.set_cons_succ]; replace hCl := hCl'; clear hCl'
            refine T.qT 6 (some 278) ?v66 rfl rfl hCl ?hy66 (fun hCl' => ?_)
            case hy66 => (intro w hSw; refine T.qVal ?_ hSw; (try dsimp only [List.getElem_toArray, List.getElem_cons_succ, List.getElem_cons_zero]); go_simp; try with_reducible rfl)
            simp only [Act.put, List.setIfInBounds_toArray, List.set_cons_zero, List.set_cons_succ]; replace hCl := hCl'; clear hCl'
            refine T.qT 7 (some 279) ?v67 rfl rfl hCl ?hy67 (fun hCl' => ?_)
            case hy67 => (intro w hSw; refine T.qVal ?_ hSw; (try dsimp only [List.getElem_toArray, List.getElem_cons_succ, List.getElem_cons_zero]); go_simp; try with_reducible rfl)
            simp only [Act.put, List.setIfInBounds_toArray, List.set_cons_zero, List.set_cons_succ]; replace hCl := hCl'; clear hCl'
            refine T.qT 8 (some 280) ?v68 rfl rfl hCl ?hy68 (fun hCl' => ?_)
            case hy68 => (intro w hSw; refine T.qVal ?_ hSw; (try dsimp only [List.getElem_toArray, List.getElem_cons_succ, List.getElem_cons_zero]); go_simp; try with_reducible rfl)
            simp only [Act.put, List.setIfInBounds_toArray, List.set_cons_zero, List.set_cons_succ]; replace hCl := hCl'; clear hCl'
            refine T.qT 9 (some 281) ?v69 rfl rfl hCl ?hy69 (fun hCl' => ?_)
            case hy69 => (intro w hSw; refine T.qVal ?_ hSw; (try dsimp only [List.getElem_toArray, List.getElem_cons_succ, List.getElem_cons_zero]); go_simp; try with_reducible rfl)
            simp only [Act.put, List.setIfInBounds_toArray, List.set_cons_zero, List.set_cons_succ]; replace hCl := hCl'; clear hCl'
            refine T.qT 10 (some 282) ?v70 rfl rfl hCl ?hy70 (fun hCl' => ?_)
            case hy70 => (intro w hSw; refine T.qVal ?_ hSw; (try dsimp only [List.getElem_toArray, List.getElem_cons_succ, List.getElem_cons_zero]); go_simp; try with_reducible rfl)
            simp only [Act.put, List.setIfInBounds_toArray, List.set_cons_zero, List.set_cons_succ]; replace hCl := hCl'; clear hCl'
            refine T.qT 11 (some 283) ?v71 rfl rfl hCl ?hy71 (fun hCl' => ?_)
            case hy71 => (intro w hSw; refine T.qVal ?_ hSw; (try dsimp only [List.getElem_toArray, List.getElem_cons_succ, List.getElem_cons_zero]); go_simp; try with_reducible rfl)
            simp only [Act.put, List.setIfInBounds_toArray, List.set_cons_zero, List.set_cons_succ]; replace hCl := hCl'; clear hCl'
            refine T.qT 12 (some 284) ?v72 rfl rfl hCl ?hy72 (fun hCl' => ?_)
            case hy72 => (intro w hSw; refine T.qVal ?_ hSw; (try dsimp only [List.getElem_toArray, List.getElem_cons_succ, List.getElem_cons_zero]); go_simp; try with_reducible rfl)
            simp only [Act.put, List.setIfInBounds_toArray, List.set_cons_zero, List.set_cons_succ]; replace hCl := hCl'; clear hCl'
            refine T.qT 13 (some 285) ?v73 rfl rfl hCl ?hy73 (fun hCl' => ?_)
            case hy73 => (intro w hSw; refine T.qVal ?_ hSw; (try dsimp only [List.getElem_toArray, List.getElem_cons_succ, List.getElem_cons_zero]); go_simp; try with_reducible rfl)
            simp only [Act.put, List.setIfInBounds_toArray, List.set_cons_zero, List.set_cons_succ]; replace hCl := hCl'; clear hCl'
            refine T.qT 14 (some 286) ?v74 rfl rfl hCl ?hy74 (fun hCl' => ?_)
            case hy74 => (intro w hSw; refine T.qVal ?_ hSw; (have fF362 := F362.out w hSw; have fF363 := F363.out w hSw; have fF364 := F364.out w hSw; have fF365 := F365.out w hSw; have fF366 := F366.out w hSw; have fF367 := F367.out w hSw; have fF368 := F368.out w hSw); (try dsimp only [List.getElem_toArray, List.getElem_cons_succ, List.getElem_cons_zero]); go_simp; try with_reducible rfl)
            simp only [Act.put, List.setIfInBounds_toArray, List.set_cons_zero, List.set_cons_succ]; replace hCl := hCl'; clear hCl'
            refine T.qT 15 (some 287) ?v75 rfl rfl hCl ?hy75 (fun hCl' => ?_)
            case hy75 => (intro w hSw; refine T.qVal ?_ hSw; (have fF362 := F362.out w hSw; have fF363 := F363.out w hSw; have fF364 := F364.out w hSw; have fF365 := F365.out w hSw; have fF366 := F366.out w hSw; have fF367 := F367.out w hSw; have fF368 := F368.out w hSw); (try dsimp only [List.getElem_toArray, List.getElem_cons_succ, List.getElem_cons_zero]); go_simp; try with_reducible rfl)
            simp only [Act.put, List.setIfInBounds_toArray, List.set_cons_zero, List.set_cons_succ]; replace hCl := hCl'; clear hCl'
            refine T.qT 16 (some 288) ?v76 rfl rfl hCl ?hy76 (fun hCl' => ?_)
            case hy76 => (intro w hSw; refine T.qVal ?_ hSw; (try dsimp only [List.getElem_toArray, List.getElem_cons_succ, List.getElem_cons_zero]); go_simp; try with_reducible rfl)
            simp only [Act.put, List.setIfInBounds_toArray, List.set_cons_zero, List.set_cons_succ]; replace hCl := hCl'; clear hCl'
            refine T.qT 17 (some 289) ?v77 rfl rfl hCl ?hy77 (fun hCl' => ?_)
            case hy77 => (intro w hSw; refine T.qVal ?_ hSw; (try dsimp only [List.getElem_toArray, List.getElem_cons_succ, List.getElem_cons_zero]); go_simp; try with_reducible rfl)
            simp only [Act.put, List.setIfInBounds_toArray, List.set_cons_zero, List.set_cons_succ]; replace hCl := hCl'; clear hCl'
            refine T.qT 18 (some 290) ?v78 rfl rfl hCl ?hy78 (fun hCl' => ?_)
            case hy78 => (intro w hSw; refine T.qVal ?_ hSw; (try dsimp only [List.getElem_toArray, List.getElem_cons_succ, List.getElem_cons_zero]); go_simp; try with_reducible rfl)
            simp only [Act.put, List.setIfInBounds_toArray, List.set_cons_zero, List.set_cons_succ]; replace hCl := hCl'; clear hCl'
            refine T.qT 19 (some 291) ?v79 rfl rfl hCl ?hy79 (fun hCl' => ?_)
            case hy79 => (intro w hSw; refine T.qVal ?_ hSw; (try dsimp only [List.getElem_toArray, List.getElem_cons_succ, List.getElem_cons_zero]); go_simp; try with_reducible rfl)
            simp only [Act.put, List.setIfInBounds_toArray, List.set_cons_zero, List.set_cons_succ]; replace hCl := hCl'; clear hCl'
            refine T.qT 20 (some 292) ?v80 rfl rfl hCl ?hy80 (fun hCl' => ?_)
            case hy80 => (intro w hSw; refine T.qVal ?_ hSw; (try dsimp only [List.getElem_toArray, List.getElem_cons_succ, List.getElem_cons_zero]); go_simp; try with_reducible rfl)
            simp only [Act.put, List.setIfInBounds_toArray, List.set_cons_zero, List.set_cons_succ]; replace hCl := hCl'; clear hCl'
            refine T.qT 21 (some 293) ?v81 rfl rfl hCl ?hy81 (fun hCl' => ?_)
            case hy81 => (intro w hSw; refine T.qVal ?_ hSw; (try dsimp only [List.getElem_toArray, List.getElem_cons_succ, List.getElem_cons_zero]); go_simp; try with_reducible rfl)
            simp only [Act.put, List.setIfInBounds_toArray, List.set_cons_zero, List.set_cons_succ]; replace hCl := hCl'; clear hCl'
            refine T.qS 22 (some 294) rfl rfl hCl (fun hCl' => ?_)
            simp only [Act.put, List.setIfInBounds_toArray, List.set_cons_zero, List.set_cons_succ]; replace hCl := hCl'; clear hCl'
            refine T.qS 23 (some 295) rfl rfl hCl (fun hCl' => ?_)
            simp only [Act.put, List.setIfInBounds_toArray, List.set_cons_zero, List.set_cons_succ]; replace hCl := hCl'; clear hCl'
            refine T.qS 25 (some 297) rfl rfl hCl (fun hCl' => ?_)
            simp only [Act.put, List.setIfInBounds_toArray, List.set_cons_zero, List.set_cons_succ]; replace hCl := hCl'; clear hCl'
            refine T.qS 27 (some 299) rfl rfl hCl (fun hCl' => ?_)
            simp only [Act.put, List.setIfInBounds_toArray, List.set_cons_zero, List.set_cons_succ]; replace hCl := hCl'; clear hCl'
            refine T.qS 29 (some 301) rfl rfl hCl (fun hCl' => ?_)
            simp only [Act.put, List.setIfInBounds_toArray, List.set_cons_zero, List.set_cons_succ]; replace hCl := hCl'; clear hCl'
            refine T.qS 24 (some 296) rfl rfl hCl (fun hCl' => ?_)
            simp only [Act.put, List.setIfInBounds_toArray, List.set_cons_zero, List.set_cons_succ]; replace hCl := hCl'; clear hCl'
            refine T.qS 28 (some 300) rfl rfl hCl (fun hCl' => ?_)
            simp only [Act.put, List.setIfInBounds_toArray, List.set_cons_zero, List.set_cons_succ]; replace hCl := hCl'; clear hCl'
            refine T.qS 26 (some 298) rfl rfl hCl (fun hCl' => ?_)
            simp only [Act.put, List.setIfInBounds_toArray, List.set_cons_zero, List.set_cons_succ]; replace hCl := hCl'; clear hCl'
            refine T.qS 30 (some 302) rfl rfl hCl (fun hCl' => ?_)
            simp only [Act.put, List.setIfInBounds_toArray, List.set_cons_zero, List.set_cons_succ]; replace hCl := hCl'; clear hCl'
            refine T.qS 31 (some 303) rfl rfl hCl (fun hCl' => ?_)
            simp only [Act.put, List.setIfInBounds_toArray, List.set_cons_zero, List.set_cons_succ]; replace hCl := hCl'; clear hCl'
            refine T.qS 32 (some 304) rfl rfl hCl (fun hCl' => ?_)
            simp only [Act.put, List.setIfInBounds_toArray, List.set_cons_zero, List.set_cons_succ]; replace hCl := hCl'; clear hCl'
            refine T.qT 33 (some 305) ?v93 rfl rfl hCl ?hy93 (fun hCl' => ?_)
            case hy93 => (intro w hSw; refine T.qVal ?_ hSw; (try dsimp only [List.getElem_toArray, List.getElem_cons_succ, List.getElem_cons_zero]); go_simp; try with_reducible rfl)
            simp only [Act.put, List.setIfInBounds_toArray, List.set_cons_zero, List.set_cons_succ]; replace hCl := hCl'; clear hCl'
            refine T.qT 34 (some 306) ?v94 rfl rfl hCl ?hy94 (fun hCl' => ?_)
            case hy94 => (intro w hSw; refine T.qVal ?_ hSw; (try dsimp only [List.getElem_toArray, List.getElem_cons_succ, List.getElem_cons_zero]); go_simp; try with_reducible rfl)
            simp only [Act.put, List.setIfInBounds_toArray, List.set_cons_zero, List.set_cons_succ]; replace hCl := hCl'; clear hCl'
            refine T.qT 35 (some 307) ?v95 rfl rfl hCl ?hy95 (fun hCl' => ?_)
            case hy95 => (intro w hSw; refine T.qVal ?_ hSw; (try dsimp only [List.getElem_toArray, List.getElem_cons_succ, List.getElem_cons_zero]); go_simp; try with_reducible rfl)
            simp only [Act.put, List.setIfInBounds_toArray, List.set_cons_zero, List.set_cons_succ]; replace hCl := hCl'; clear hCl'
            refine T.qT 36 (some 308) ((.bool true)) rfl rfl hCl ?hy96 (fun hCl' => ?_)
            case hy96 => (intro w hSw; (have fF362 := F362.out w hSw; have fF363 := F363.out w hSw; have fF364 := F364.out w hSw; have fF365 := F365.out w hSw; have fF366 := F366.out w hSw; have fF367 := F367.out w hSw; have fF368 := F368.out w hSw); (try dsimp only [List.getElem_toArray, List.getElem_cons_succ, List.getElem_cons_zero]); go_simp; (refine (callsIn_wide.2 (HW.out w)).mono ?_; rintro e w3 ⟨rfl, u3⟩; exact ⟨rfl, hSw.trans u3⟩))
            simp only [Act.put, List.setIfInBounds_toArray, List.set_cons_zero, List.set_cons_succ]
            replace hCl := hCl'; clear hCl'
            refine T.qT 37 (some 309) ?v97 rfl rfl hCl ?hy97 (fun hCl' => ?_)
            case hy97 => (intro w hSw; refine T.qVal ?_ hSw; (try dsimp only [List.getElem_toArray, List.getElem_cons_succ, List.getElem_cons_zero]); go_simp; try with_reducible rfl)
            simp only [Act.put, List.setIfInBounds_toArray, List.set_cons_zero, List.set_cons_succ]; replace hCl := hCl'; clear hCl'
            refine T.tail_intro (by kernel_rfl) (fun Y361 hY361 => ?_)
            replace U := U.trans hY361
            replace kB := hY361.blk kB
            replace kc := hY361.blk kc
            replace kz := hY361.blk kz
            replace kp := hY361.blk kp
            replace kr := hY361.blk kr
            replace ks := hY361.blk ks
            replace kt := hY361.blk kt
            replace Ux := Ux.trans hY361
            clear F362 F363 F364 F365 F366 F367 F368 hY361
            refine lastG (i := 38) (by kernel_rfl) rfl (by rfl) (by decide) (fun K hK => ?_)
            go_simp
            refine hK.out _ _ ?_
            clear hK K
            refine doneG (by kernel_rfl) ?_ _
            refine S.nrm_intro ?_
            go_wp2
            go_ret
            exact ⟨rfl, U⟩
end

end Go.Proofs.Ytlpkheoljbdajaa
