import Derived.Test.YtfmnfingliflkaaTickF
/- The walk of the law DialLocal. -/
namespace Go.Proofs.Ytfmnfingliflkaa
open Go.RowKit
attribute [local go_sem] cell_TW7

set_option maxRecDepth 100000 in
set_option maxHeartbeats 4000000 in
theorem dialLocal_any {h m s d : Int} {a : Option Addr} {n c : Nat} {L : List (Int × Bool)} {ah : Int} {a' : Option Addr} {n' c' : Nat} {M : List (Int × Int)} {w : World} (A : CalArg w a n c L) (B : TownArg w a' n' c' M) (n0 : Int) :
    Calls Try.prog 12 #[.agg #[.int .i64 h, .int .i64 m, .int .i64 s, .int .i64 d, .slice a n c, .int .i64 ah, .slice a' n' c'], .int .i64 n0] w fun e w' => e = .returned (.bool true) ∧ Up w w' := by
  have U0 := (Up.refl w).alloc (.cells #[.int .i64 h, .int .i64 m, .int .i64 s, .int .i64 d, .slice a n c, .int .i64 ah, .slice a' n' c'] 46)
  have H0 := Lib.hid (l_fit_any (h := h) (m := m) (s := s) (d := d) (ah := ah) (c := c) (c' := c') (A.up U0) (B.up U0))
  cases hf : D.fits h m s d L ah M
  · rw [hf] at H0
    clear A B hf U0
    go_enter Try.func12, Try.ntmps12
    go_wp2_with fail
    refine H0.out.mono ?_
    rintro e w1 ⟨rfl, u1⟩
    go_wp2_with fail
    refine (l_works_any _).mono ?_
    rintro e w2 ⟨rfl, u2⟩
    go_wp2
    go_ret
    exact ⟨rfl, ((Up.refl w).alloc _).trans (u1.trans u2)⟩
  rw [hf] at H0
  simp only [D.fits, Bool.and_eq_true] at hf
  obtain ⟨hv, ht⟩ := hf
  obtain ⟨h1, h2, m1, m2, s1, s2, d1, d2⟩ := D.valid_bd hv
  obtain ⟨N, rfl⟩ : ∃ N : Nat, d = N := ⟨d.toNat, by omega⟩
  rw [Int.toNat_natCast] at ht
  have tb := D.beg_bd h m s (D.deeds L L.length) h1 h2 m1 m2 s1 s2 N
  have hl' := B.len
  obtain ⟨a1, a2, ml, mb, mi⟩ := D.town_bd ht
  have i0 := Int.emod_nonneg n0 (show D.beg h m s (D.deeds L L.length) N ≠ 0 by omega)
  have i1 := Int.emod_lt_of_pos n0 (show 0 < D.beg h m s (D.deeds L L.length) N by omega)
  obtain ⟨t, hi⟩ : ∃ t, n0 % D.beg h m s (D.deeds L L.length) N = t := ⟨_, rfl⟩
  rw [hi] at i0 i1
  obtain ⟨u, k, e1, e2, e3, u0, u1, k0, k1, e4, e5, e6⟩ := D.local_is h1 h2 m1 m2 s1 (by omega) ht i0 i1
  obtain ⟨u', k', e1', e2', e3', _, _, _, _, _, _, _⟩ := D.local_is h1 h2 m1 m2 s1 (by omega) (D.town0 (D.beg h m s (D.deeds L L.length) N)) i0 i1
  rw [e1] at e1'
  have ek : k' = 0 := e2'.symm
  subst ek
  subst e1'
  rw [Int.add_zero] at e3'
  have ib := inB_yes i0 (show t ≤ D.beg h m s (D.deeds L L.length) N - 1 by omega)
  have HTot := Lib.hid (fun w' (u : Up w w') => l_ticksOf_any (h := h) (m := m) (s := s) (c := c) (A.up u) hv)
  have HRead := Lib.hid (fun w' (u : Up w w') => Reading_rd (h := h) (m := m) (s := s) (d := N) (c := c) (A.up u) t hv i0 i1)
  have HLoc := Lib.hid (fun w' (u : Up w w') => Local_yes (h := h) (m := m) (s := s) (d := N) (c := c) (c' := c') (A.up u) (B.up u) t hv ht ib)
  have HPlain := Lib.hid (fun w' (u : Up w w') => Local_yes (h := h) (m := m) (s := s) (d := N) (c := c) (A.up u) (TownArg.none w') t hv (D.town0 _) ib)
  have HTicks := Lib.hid (fun p0 p1 p2 p3 w' (u : Up w w') => Ticks_yes (h := h) (m := m) (s := s) (d := N) (c := c) (c' := c') (A.up u) (B.up u) p0 p1 p2 p3 hv ht)
  have HAhd := Lib.hid (fun w' (u : Up w w') => l_aheadOf_any (c' := c') (ah := ah) (B.up u) (by omega) t)
  have hmem := (D.ticks_mem h1 h2 m1 m2 s1 s2 (by omega) ht ((u + k) / (h * m)) ((u + k) % (h * m) / m) ((u + k) % (h * m) % m) (D.rS h m s (D.deeds L L.length) N t) t).2 ⟨i0, i1, by rw [e3], by rw [e3], by rw [e3], rfl⟩
  have hclimb := D.ticks_climb h1 h2 m1 m2 s1 s2 (by omega) ht ((u + k) / (h * m)) ((u + k) % (h * m) / m) ((u + k) % (h * m) % m) (D.rS h m s (D.deeds L L.length) N t)
  have hlen := D.ticks_len (h := h) (m := m) (s := s) (n := N) (x := D.deeds L L.length) (ah := ah) (M := M) ((u + k) / (h * m)) ((u + k) % (h * m) / m) ((u + k) % (h * m) % m) (D.rS h m s (D.deeds L L.length) N t)
  rw [Int.toNat_natCast] at HTot HRead HLoc HPlain HTicks
  have hk' : D.ahAt ah M t n' = k := by rw [hl']; exact e2
  rw [hk'] at HAhd
  rw [e3] at HLoc
  rw [e3'] at HPlain
  rw [e4, e5, e6] at HRead
  have HT := Lib.hid (HTicks.out ((u + k) / (h * m)) ((u + k) % (h * m) / m) ((u + k) % (h * m) % m) (D.rS h m s (D.deeds L L.length) N t))
  have hfind := (D.find_mem t _ 0 (Int.le_refl _)).2 hmem
  obtain ⟨fz, hfz⟩ : ∃ fz, D.find t 0 (D.ticksV h m s N (D.deeds L L.length) ah M ((u + k) / (h * m)) ((u + k) % (h * m) / m) ((u + k) % (h * m) % m) (D.rS h m s (D.deeds L L.length) N t)) = fz := ⟨_, rfl⟩
  rw [hfz] at hfind
  have HFnd := Lib.hid (fun w' v (S : D.Sl w' v (D.ticksV h m s N (D.deeds L L.length) ah M ((u + k) / (h * m)) ((u + k) % (h * m) / m) ((u + k) % (h * m) % m) (D.rS h m s (D.deeds L L.length) N t))) => l_Find_any S t)
  have HClm := Lib.hid (fun w' v (S : D.Sl w' v (D.ticksV h m s N (D.deeds L L.length) ah M ((u + k) / (h * m)) ((u + k) % (h * m) / m) ((u + k) % (h * m) % m) (D.rS h m s (D.deeds L L.length) N t))) => l_Climbs_any S (D.beg h m s (D.deeds L L.length) N))
  rw [hfz] at HFnd
  rw [hclimb] at HClm
  have HThr1 := Lib.hid (fun q w => show Calls Try.prog 51 #[.agg #[.int .i64 h, .int .i64 m, .int .i64 s, .int .i64 N, .slice a n c], rd ((u + k) / (h * m)) ((u + k) % (h * m) / m) ((u + k) % (h * m) % m) q] w fun e w' => e = .returned (.int .i64 (u + k)) ∧ Up w w' by
    have K := l_through_any (h := h) (m := m) (s := s) (d := N) (a := a) (n := n) (c := c) (w := w) ((u + k) / (h * m)) ((u + k) % (h * m) / m) ((u + k) % (h * m) % m) q
    rw [D.thr (u + k) h1 h2 m1 m2 (by omega) (by omega)] at K
    exact K)
  have HThr2 := Lib.hid (fun q w => show Calls Try.prog 51 #[.agg #[.int .i64 h, .int .i64 m, .int .i64 s, .int .i64 N, .slice a n c], rd (u / (h * m)) (u % (h * m) / m) (u % (h * m) % m) q] w fun e w' => e = .returned (.int .i64 u) ∧ Up w w' by
    have K := l_through_any (h := h) (m := m) (s := s) (d := N) (a := a) (n := n) (c := c) (w := w) (u / (h * m)) (u % (h * m) / m) (u % (h * m) % m) q
    rw [D.thr u h1 h2 m1 m2 (by omega) (by omega)] at K
    exact K)
  obtain ⟨b1, b2, b3, b4⟩ := D.parts_bd (u + k) h1 h2 m1 m2
  have HL1 := Lib.hid (fun w => show Calls Try.prog 44 #[.int .i64 ((u + k) % (h * m) / m), .int .i64 0, .int .i64 (h - 1)] w fun e w' => e = .returned (.bool true) ∧ w = w' by rw [← inB_yes b1 b2]; exact l_Lies_any _ _ _ w)
  have HL2 := Lib.hid (fun w => show Calls Try.prog 44 #[.int .i64 ((u + k) % (h * m) % m), .int .i64 0, .int .i64 (m - 1)] w fun e w' => e = .returned (.bool true) ∧ w = w' by rw [← inB_yes b3 b4]; exact l_Lies_any _ _ _ w)
  have v1 : IntKind.i64.wrap (u + k) = u + k := IntWalk.i64_in _ (by omega)
  have v2 : IntKind.i64.wrap (h - 1) = h - 1 := IntWalk.i64_in _ (by omega)
  have v3 : IntKind.i64.wrap (m - 1) = m - 1 := IntWalk.i64_in _ (by omega)
  generalize (u + k) / (h * m) = LA at *
  generalize (u + k) % (h * m) / m = LB at *
  generalize (u + k) % (h * m) % m = LC at *
  generalize u / (h * m) = RA at *
  generalize u % (h * m) / m = RB at *
  generalize u % (h * m) % m = RC at *
  generalize D.rS h m s (D.deeds L L.length) N t = RS at *
  generalize D.ticksV h m s N (D.deeds L L.length) ah M LA LB LC RS = l at *
  generalize D.beg h m s (D.deeds L L.length) N = T at *
  have HLN := Lib.hid hlen
  have HI := Lib.hid hi
  have l6 : l.length ≤ 1000000 := by omega
  have L6 := Lib.hid l6
  have hfl : ¬ (fz < 0) := by omega
  have hfl2 : (decide (fz < 0)) = false := by simp; omega
  clear A B hv ht hk' hmem hclimb hlen mb mi e1 e2 e3 e4 e5 e6 e2' e3' HTicks ib hl' hfz hi l6 ml
  go_enter Try.func12, Try.ntmps12
  go_wp2_with fail
  have c0 : mblk (w.alloc (.cells #[.int .i64 h, .int .i64 m, .int .i64 s, .int .i64 N, .slice a n c, .int .i64 ah, .slice a' n' c'] 46)) w.heap.size = some (.cells #[.int .i64 h, .int .i64 m, .int .i64 s, .int .i64 N, .slice a n c, .int .i64 ah, .slice a' n' c'] 46 (0, 0)) := blk_new _ _ _ rfl
  refine H0.out.mono ?_
  rintro e w1 ⟨rfl, u1⟩
  have U1 := U0.trans u1
  have c1 := u1.blk c0
  have f1 := cellB c1
  clear u1 U0 c0 H0
  go_wp2_with fail
  refine (HTot.out _ U1).mono ?_
  rintro e w2 ⟨rfl, u2⟩
  have U2 := U1.trans u2
  have c2 := u2.blk c1
  have f2 := cellB c2
  clear u2 U1 c1 f1 HTot
  go_wp2_with fail
  refine (l_Rest_any _ _ _ (by omega) (by omega)).mono ?_
  rintro e w3 ⟨rfl, rfl⟩
  rw [HI.out]
  go_wp2_with fail
  refine (HRead.out _ U2).mono ?_
  rintro e w3 ⟨rfl, u3⟩
  have U3 := U2.trans u3
  have c3 := u3.blk c2
  have f3 := cellB c3
  have s3 := blk_lt c3
  clear u3 U2 c2 f2 HRead
  go_wp2_with fail
  obtain ⟨W4, hW4⟩ : ∃ W4, w3.alloc (.cells #[.int .i64 RA, .int .i64 RB, .int .i64 RC, .int .i64 RS] 27) = W4 := ⟨_, rfl⟩
  have r4 : mblk W4 w3.heap.size = some (.cells #[.int .i64 RA, .int .i64 RB, .int .i64 RC, .int .i64 RS] 27 (0, 0)) := by rw [← hW4]; exact blk_new _ _ _ rfl
  have c4 : mblk W4 w.heap.size = some (.cells #[.int .i64 h, .int .i64 m, .int .i64 s, .int .i64 N, .slice a n c, .int .i64 ah, .slice a' n' c'] 46 (0, 0)) := by rw [← hW4]; exact blk_keep _ c3
  have U4 : Up w W4 := by rw [← hW4]; exact U3.alloc _
  obtain ⟨r, hr⟩ : ∃ r, w3.heap.size = r := ⟨_, rfl⟩
  rw [hr] at r4 ⊢
  rw [hW4]
  clear hW4 hr U3 c3 f3 s3
  refine (HLoc.out _ U4).mono ?_
  rintro e w5 ⟨rfl, u5⟩
  have U5 := U4.trans u5
  have c5 := u5.blk c4
  have r5 := u5.blk r4
  have f5 := cellB c5
  have s5 := blk_lt c5
  clear u5 U4 c4 r4 HLoc
  go_wp2_with fail
  obtain ⟨W6, hW6⟩ : ∃ W6, w5.alloc (.cells #[.int .i64 LA, .int .i64 LB, .int .i64 LC, .int .i64 RS] 27) = W6 := ⟨_, rfl⟩
  have q6 : mblk W6 w5.heap.size = some (.cells #[.int .i64 LA, .int .i64 LB, .int .i64 LC, .int .i64 RS] 27 (0, 0)) := by rw [← hW6]; exact blk_new _ _ _ rfl
  have c6 : mblk W6 w.heap.size = some (.cells #[.int .i64 h, .int .i64 m, .int .i64 s, .int .i64 N, .slice a n c, .int .i64 ah, .slice a' n' c'] 46 (0, 0)) := by rw [← hW6]; exact blk_keep _ c5
  have r6 : mblk W6 r = some (.cells #[.int .i64 RA, .int .i64 RB, .int .i64 RC, .int .i64 RS] 27 (0, 0)) := by rw [← hW6]; exact blk_keep _ r5
  have U6 : Up w W6 := by rw [← hW6]; exact U5.alloc _
  obtain ⟨q, hq⟩ : ∃ q, w5.heap.size = q := ⟨_, rfl⟩
  rw [hq] at q6 ⊢
  rw [hW6]
  clear hW6 hq U5 c5 r5 f5 s5
  refine (HPlain.out _ U6).mono ?_
  rintro e w7 ⟨rfl, u7⟩
  have U7 := U6.trans u7
  have c7 := u7.blk c6
  have r7 := u7.blk r6
  have q7 := u7.blk q6
  have f7 := cellB c7
  have g7 := cellB q7
  have s7 := blk_lt c7
  have s7' := blk_lt q7
  clear u7 U6 c6 r6 q6 HPlain
  go_wp2_with fail
  obtain ⟨W8, hW8⟩ : ∃ W8, w7.alloc (.cells #[.int .i64 RA, .int .i64 RB, .int .i64 RC, .int .i64 RS] 27) = W8 := ⟨_, rfl⟩
  have p8 : mblk W8 w7.heap.size = some (.cells #[.int .i64 RA, .int .i64 RB, .int .i64 RC, .int .i64 RS] 27 (0, 0)) := by rw [← hW8]; exact blk_new _ _ _ rfl
  have c8 : mblk W8 w.heap.size = some (.cells #[.int .i64 h, .int .i64 m, .int .i64 s, .int .i64 N, .slice a n c, .int .i64 ah, .slice a' n' c'] 46 (0, 0)) := by rw [← hW8]; exact blk_keep _ c7
  have r8 : mblk W8 r = some (.cells #[.int .i64 RA, .int .i64 RB, .int .i64 RC, .int .i64 RS] 27 (0, 0)) := by rw [← hW8]; exact blk_keep _ r7
  have q8 : mblk W8 q = some (.cells #[.int .i64 LA, .int .i64 LB, .int .i64 LC, .int .i64 RS] 27 (0, 0)) := by rw [← hW8]; exact blk_keep _ q7
  have U8 : Up w W8 := by rw [← hW8]; exact U7.alloc _
  obtain ⟨p, hp⟩ : ∃ p, w7.heap.size = p := ⟨_, rfl⟩
  rw [hp] at p8 ⊢
  rw [hW8]
  clear hW8 hp U7 c7 r7 q7 f7 g7 s7 s7'
  refine (HT.out _ U8).mono ?_
  rintro e w9 ⟨v, rfl, u9, hNI⟩
  have S9 := hNI.sl L6.out
  have U9 := U8.trans u9
  have c9 := u9.blk c8
  have r9 := u9.blk r8
  have q9 := u9.blk q8
  have p9 := u9.blk p8
  have fr9 := cellB r9
  have fp9 := cellB p9
  have SS := Lib.hid S9
  clear u9 U8 c8 r8 q8 p8 HT hNI S9
  go_wp2_with fail
  refine (HFnd.out _ _ SS.out).mono ?_
  rintro e w10 ⟨rfl, u10⟩
  have SS2 := Lib.hid (SS.out.up u10)
  have U10 := U9.trans u10
  have c10 := u10.blk c9
  have r10 := u10.blk r9
  have q10 := u10.blk q9
  clear u10 U9 c9 r9 q9 p9 fr9 fp9 SS HFnd
  go_wp2_with fail
  refine (HClm.out _ _ SS2.out).mono ?_
  rintro e w11 ⟨rfl, u11⟩
  have U11 := U10.trans u11
  have c11 := u11.blk c10
  have r11 := u11.blk r10
  have q11 := u11.blk q10
  clear u11 U10 c10 r10 q10 SS2 HClm
  go_wp2_with fail
  refine wp_region_held_drew (S := fun w' => Up w w' ∧ mblk w' w.heap.size = some (.cells #[.int .i64 h, .int .i64 m, .int .i64 s, .int .i64 N, .slice a n c, .int .i64 ah, .slice a' n' c'] 46 (0, 0)) ∧ mblk w' r = some (.cells #[.int .i64 RA, .int .i64 RB, .int .i64 RC, .int .i64 RS] 27 (0, 0)) ∧ mblk w' q = some (.cells #[.int .i64 LA, .int .i64 LB, .int .i64 LC, .int .i64 RS] 27 (0, 0))) (by kernel_rfl) ⟨U11.drew, by rw [blk_drew]; exact c11, by rw [blk_drew]; exact r11, by rw [blk_drew]; exact q11⟩ (fun hHeld => ?_)
  clear U11 c11 r11 q11
  refine takeH (i := 0) (d := (some 95)) (v := ?v1) rfl rfl (by kernel_rfl) (by kernel_rfl) (by kernel_rfl) (fun _ _ _ h => h) (by rfl) ?hy1 (by assumption) ?_
  case hy1 => ((intro w hSw; (try dsimp only at hSw); (try go_split_ands); go_simp); try with_reducible rfl)
  simp only [Act.put, List.setIfInBounds_toArray, List.set_cons_zero, List.set_cons_succ]
  refine takeH (i := 2) (d := (some 97)) (v := ?v2) rfl rfl (by kernel_rfl) (by kernel_rfl) (by kernel_rfl) (fun _ _ _ h => h) (by rfl) ?hy2 (by assumption) ?_
  case hy2 => ((intro w hSw; (try dsimp only at hSw); (try go_split_ands); go_simp); try with_reducible rfl)
  simp only [Act.put, List.setIfInBounds_toArray, List.set_cons_zero, List.set_cons_succ]
  refine takeH (i := 1) (d := (some 96)) (v := ?v3) rfl rfl (by kernel_rfl) (by kernel_rfl) (by kernel_rfl) (fun _ _ _ h => h) (by rfl) ?hy3 (by assumption) ?_
  case hy3 => ((intro w hSw; (try dsimp only at hSw); (try go_split_ands); go_simp); try with_reducible rfl)
  simp only [Act.put, List.setIfInBounds_toArray, List.set_cons_zero, List.set_cons_succ]
  refine takeH (i := 3) (d := (some 98)) (v := ?v4) rfl rfl (by kernel_rfl) (by kernel_rfl) (by kernel_rfl) (fun _ _ _ h => h) (by rfl) ?hy4 (by assumption) ?_
  case hy4 => ((intro w hSw; (try dsimp only at hSw); (try go_split_ands); go_simp); try with_reducible rfl)
  simp only [Act.put, List.setIfInBounds_toArray, List.set_cons_zero, List.set_cons_succ]
  refine takeH (i := 4) (d := (some 99)) (v := ?v5) rfl rfl (by kernel_rfl) (by kernel_rfl) (by kernel_rfl) (fun _ _ _ h => h) (by rfl) ?hy5 (by assumption) ?_
  case hy5 => ((intro w hSw; (try dsimp only at hSw); (try go_split_ands); go_simp); try with_reducible rfl)
  simp only [Act.put, List.setIfInBounds_toArray, List.set_cons_zero, List.set_cons_succ]
  refine takeH (i := 5) (d := (some 100)) (v := ?v6) rfl rfl (by kernel_rfl) (by kernel_rfl) (by kernel_rfl) (fun _ _ _ h => h) (by rfl) ?hy6 (by assumption) ?_
  case hy6 => ((intro w hSw; (try dsimp only at hSw); (try go_split_ands); go_simp); try with_reducible rfl)
  simp only [Act.put, List.setIfInBounds_toArray, List.set_cons_zero, List.set_cons_succ]
  refine takeH (i := 6) (d := (some 101)) (v := ?v7) rfl rfl (by kernel_rfl) (by kernel_rfl) (by kernel_rfl) (fun _ _ _ h => h) (by rfl) ?hy7 (by assumption) ?_
  case hy7 => ((intro w hSw; (try dsimp only at hSw); (try go_split_ands); go_simp); try with_reducible rfl)
  simp only [Act.put, List.setIfInBounds_toArray, List.set_cons_zero, List.set_cons_succ]
  refine takeH (i := 8) (d := (some 103)) (v := ?v8) rfl rfl (by kernel_rfl) (by kernel_rfl) (by kernel_rfl) (fun _ _ _ h => h) (by rfl) ?hy8 (by assumption) ?_
  case hy8 => ((intro w hSw; (try dsimp only at hSw); (try go_split_ands); go_simp); try with_reducible rfl)
  simp only [Act.put, List.setIfInBounds_toArray, List.set_cons_zero, List.set_cons_succ]
  refine takeH (i := 10) (d := (some 105)) (v := ?v9) rfl rfl (by kernel_rfl) (by kernel_rfl) (by kernel_rfl) (fun _ _ _ h => h) (by rfl) ?hy9 (by assumption) ?_
  case hy9 => ((intro w hSw; (try dsimp only at hSw); (try go_split_ands); go_simp); try with_reducible rfl)
  simp only [Act.put, List.setIfInBounds_toArray, List.set_cons_zero, List.set_cons_succ]
  refine takeH (i := 12) (d := (some 107)) (v := ?v10) rfl rfl (by kernel_rfl) (by kernel_rfl) (by kernel_rfl) (fun _ _ _ h => h) (by rfl) ?hy10 (by assumption) ?_
  case hy10 => ((intro w hSw; (try dsimp only at hSw); (try go_split_ands); go_simp); try with_reducible rfl)
  simp only [Act.put, List.setIfInBounds_toArray, List.set_cons_zero, List.set_cons_succ]
  refine takeH (i := 14) (d := (some 109)) (v := ?v11) rfl rfl (by kernel_rfl) (by kernel_rfl) (by kernel_rfl) (fun _ _ _ h => h) (by rfl) ?hy11 (by assumption) ?_
  case hy11 => ((intro w hSw; (try dsimp only at hSw); (try go_split_ands); go_simp); try with_reducible rfl)
  simp only [Act.put, List.setIfInBounds_toArray, List.set_cons_zero, List.set_cons_succ]
  refine takeH (i := 16) (d := (some 111)) (v := ?v12) rfl rfl (by kernel_rfl) (by kernel_rfl) (by kernel_rfl) (fun _ _ _ h => h) (by rfl) ?hy12 (by assumption) ?_
  case hy12 => ((intro w hSw; (try dsimp only at hSw); (try go_split_ands); go_simp); try with_reducible rfl)
  simp only [Act.put, List.setIfInBounds_toArray, List.set_cons_zero, List.set_cons_succ]
  refine takeH (i := 7) (d := (some 102)) (v := ?v13) rfl rfl (by kernel_rfl) (by kernel_rfl) (by kernel_rfl) (fun _ _ _ h => h) (by rfl) ?hy13 (by assumption) ?_
  case hy13 => ((intro w hSw; (try dsimp only at hSw); (try go_split_ands); go_simp); try with_reducible rfl)
  simp only [Act.put, List.setIfInBounds_toArray, List.set_cons_zero, List.set_cons_succ]
  refine takeH (i := 11) (d := (some 106)) (v := ?v14) rfl rfl (by kernel_rfl) (by kernel_rfl) (by kernel_rfl) (fun _ _ _ h => h) (by rfl) ?hy14 (by assumption) ?_
  case hy14 => ((intro w hSw; (try dsimp only at hSw); (try go_split_ands); go_simp); try with_reducible rfl)
  simp only [Act.put, List.setIfInBounds_toArray, List.set_cons_zero, List.set_cons_succ]
  refine takeH (i := 15) (d := (some 110)) (v := ?v15) rfl rfl (by kernel_rfl) (by kernel_rfl) (by kernel_rfl) (fun _ _ _ h => h) (by rfl) ?hy15 (by assumption) ?_
  case hy15 => ((intro w hSw; (try dsimp only at hSw); (try go_split_ands); go_simp); try with_reducible rfl)
  simp only [Act.put, List.setIfInBounds_toArray, List.set_cons_zero, List.set_cons_succ]
  refine wpAnyH_ready (rs := [9]) (by kernel_rfl) (by simp) ?_
  refine AllReadyH.cons rfl (fun K hK => ?_) AllReadyH.nil
  go_simp
  refine (HThr1.out _ _).mono ?_
  rintro e w12 ⟨rfl, u12⟩
  go_wp2_with fail
  refine hK.out _ _ ⟨hHeld.1.trans u12, u12.blk hHeld.2.1, u12.blk hHeld.2.2.1, u12.blk hHeld.2.2.2⟩ (fun hHeld => ?_)
  clear hK K u12
  refine wpAnyH_ready (rs := [13]) (by kernel_rfl) (by simp) ?_
  refine AllReadyH.cons rfl (fun K hK => ?_) AllReadyH.nil
  go_simp
  refine (HThr2.out _ _).mono ?_
  rintro e w13 ⟨rfl, u13⟩
  go_wp2_with fail
  refine hK.out _ _ ⟨hHeld.1.trans u13, u13.blk hHeld.2.1, u13.blk hHeld.2.2.1, u13.blk hHeld.2.2.2⟩ (fun hHeld => ?_)
  clear hK K u13
  refine wpAnyH_ready (rs := [17]) (by kernel_rfl) (by simp) ?_
  refine AllReadyH.cons rfl (fun K hK => ?_) AllReadyH.nil
  go_simp
  refine (HAhd.out _ hHeld.1).mono ?_
  rintro e w14 ⟨rfl, u14⟩
  go_wp2_with fail
  refine hK.out _ _ ⟨hHeld.1.trans u14, u14.blk hHeld.2.1, u14.blk hHeld.2.2.1, u14.blk hHeld.2.2.2⟩ (fun hHeld => ?_)
  clear hK K u14
  refine takeH (i := 18) (d := (some 113)) (v := ?v19) rfl rfl (by kernel_rfl) (by kernel_rfl) (by kernel_rfl) (fun _ _ _ h => h) (by rfl) ?hy19 (by assumption) ?_
  case hy19 => ((intro w hSw; (try dsimp only at hSw); (try go_split_ands); go_simp); try with_reducible rfl)
  simp only [Act.put, List.setIfInBounds_toArray, List.set_cons_zero, List.set_cons_succ]
  refine takeH (i := 19) (d := (some 114)) (v := ?v20) rfl rfl (by kernel_rfl) (by kernel_rfl) (by kernel_rfl) (fun _ _ _ h => h) (by rfl) ?hy20 (by assumption) ?_
  case hy20 => ((intro w hSw; (try dsimp only at hSw); (try go_split_ands); go_simp); try with_reducible rfl)
  simp only [Act.put, List.setIfInBounds_toArray, List.set_cons_zero, List.set_cons_succ]
  refine takeH (i := 20) (d := (some 115)) (v := ?v21) rfl rfl (by kernel_rfl) (by kernel_rfl) (by kernel_rfl) (fun _ _ _ h => h) (by rfl) ?hy21 (by assumption) ?_
  case hy21 => ((intro w hSw; (try dsimp only at hSw); (try go_split_ands); go_simp); try with_reducible rfl)
  simp only [Act.put, List.setIfInBounds_toArray, List.set_cons_zero, List.set_cons_succ]
  refine takeH (i := 21) (d := (some 116)) (v := ?v22) rfl rfl (by kernel_rfl) (by kernel_rfl) (by kernel_rfl) (fun _ _ _ h => h) (by rfl) ?hy22 (by assumption) ?_
  case hy22 => ((intro w hSw; (try dsimp only at hSw); (try go_split_ands); go_simp); try with_reducible rfl)
  simp only [Act.put, List.setIfInBounds_toArray, List.set_cons_zero, List.set_cons_succ]
  refine takeH (i := 22) (d := (some 117)) (v := ?v23) rfl rfl (by kernel_rfl) (by kernel_rfl) (by kernel_rfl) (fun _ _ _ h => h) (by rfl) ?hy23 (by assumption) ?_
  case hy23 => ((intro w hSw; (try dsimp only at hSw); (try go_split_ands); go_simp); try with_reducible rfl)
  simp only [Act.put, List.setIfInBounds_toArray, List.set_cons_zero, List.set_cons_succ]
  refine takeH (i := 24) (d := (some 119)) (v := ?v24) rfl rfl (by kernel_rfl) (by kernel_rfl) (by kernel_rfl) (fun _ _ _ h => h) (by rfl) ?hy24 (by assumption) ?_
  case hy24 => ((intro w hSw; (try dsimp only at hSw); (try go_split_ands); go_simp); try with_reducible rfl)
  simp only [Act.put, List.setIfInBounds_toArray, List.set_cons_zero, List.set_cons_succ]
  refine takeH (i := 23) (d := (some 118)) (v := ?v25) rfl rfl (by kernel_rfl) (by kernel_rfl) (by kernel_rfl) (fun _ _ _ h => h) (by rfl) ?hy25 (by assumption) ?_
  case hy25 => ((intro w hSw; (try dsimp only at hSw); (try go_split_ands); go_simp); try with_reducible rfl)
  simp only [Act.put, List.setIfInBounds_toArray, List.set_cons_zero, List.set_cons_succ]
  refine takeH (i := 25) (d := (some 120)) (v := ?v26) rfl rfl (by kernel_rfl) (by kernel_rfl) (by kernel_rfl) (fun _ _ _ h => h) (by rfl) ?hy26 (by assumption) ?_
  case hy26 => ((intro w hSw; (try dsimp only at hSw); (try go_split_ands); go_simp); try with_reducible rfl)
  simp only [Act.put, List.setIfInBounds_toArray, List.set_cons_zero, List.set_cons_succ]
  refine takeH (i := 26) (d := (some 121)) (v := ?v27) rfl rfl (by kernel_rfl) (by kernel_rfl) (by kernel_rfl) (fun _ _ _ h => h) (by rfl) ?hy27 (by assumption) ?_
  case hy27 => ((intro w hSw; (try dsimp only at hSw); (try go_split_ands); go_simp); try with_reducible rfl)
  simp only [Act.put, List.setIfInBounds_toArray, List.set_cons_zero, List.set_cons_succ]
  refine takeH (i := 27) (d := (some 122)) (v := ?v28) rfl rfl (by kernel_rfl) (by kernel_rfl) (by kernel_rfl) (fun _ _ _ h => h) (by rfl) ?hy28 (by assumption) ?_
  case hy28 => ((intro w hSw; (try dsimp only at hSw); (try go_split_ands); go_simp); try with_reducible rfl)
  simp only [Act.put, List.setIfInBounds_toArray, List.set_cons_zero, List.set_cons_succ]
  refine wpAnyH_ready (rs := [28]) (by kernel_rfl) (by simp) ?_
  refine AllReadyH.cons rfl (fun K hK => ?_) AllReadyH.nil
  go_simp
  refine (HL1.out _).mono ?_
  rintro e w15 ⟨rfl, rfl⟩
  go_wp2_with fail
  refine hK.out _ _ hHeld (fun hHeld => ?_)
  clear hK K
  refine takeH (i := 29) (d := (some 124)) (v := ?v30) rfl rfl (by kernel_rfl) (by kernel_rfl) (by kernel_rfl) (fun _ _ _ h => h) (by rfl) ?hy30 (by assumption) ?_
  case hy30 => ((intro w hSw; (try dsimp only at hSw); (try go_split_ands); go_simp); try with_reducible rfl)
  simp only [Act.put, List.setIfInBounds_toArray, List.set_cons_zero, List.set_cons_succ]
  refine takeH (i := 30) (d := (some 125)) (v := ?v31) rfl rfl (by kernel_rfl) (by kernel_rfl) (by kernel_rfl) (fun _ _ _ h => h) (by rfl) ?hy31 (by assumption) ?_
  case hy31 => ((intro w hSw; (try dsimp only at hSw); (try go_split_ands); go_simp); try with_reducible rfl)
  simp only [Act.put, List.setIfInBounds_toArray, List.set_cons_zero, List.set_cons_succ]
  refine takeH (i := 31) (d := (some 126)) (v := ?v32) rfl rfl (by kernel_rfl) (by kernel_rfl) (by kernel_rfl) (fun _ _ _ h => h) (by rfl) ?hy32 (by assumption) ?_
  case hy32 => ((intro w hSw; (try dsimp only at hSw); (try go_split_ands); go_simp); try with_reducible rfl)
  simp only [Act.put, List.setIfInBounds_toArray, List.set_cons_zero, List.set_cons_succ]
  refine takeH (i := 33) (d := (some 128)) (v := ?v33) rfl rfl (by kernel_rfl) (by kernel_rfl) (by kernel_rfl) (fun _ _ _ h => h) (by rfl) ?hy33 (by assumption) ?_
  case hy33 => ((intro w hSw; (try dsimp only at hSw); (try go_split_ands); go_simp); try with_reducible rfl)
  simp only [Act.put, List.setIfInBounds_toArray, List.set_cons_zero, List.set_cons_succ]
  refine takeH (i := 32) (d := (some 127)) (v := ?v34) rfl rfl (by kernel_rfl) (by kernel_rfl) (by kernel_rfl) (fun _ _ _ h => h) (by rfl) ?hy34 (by assumption) ?_
  case hy34 => ((intro w hSw; (try dsimp only at hSw); (try go_split_ands); go_simp); try with_reducible rfl)
  simp only [Act.put, List.setIfInBounds_toArray, List.set_cons_zero, List.set_cons_succ]
  refine takeH (i := 34) (d := (some 129)) (v := ?v35) rfl rfl (by kernel_rfl) (by kernel_rfl) (by kernel_rfl) (fun _ _ _ h => h) (by rfl) ?hy35 (by assumption) ?_
  case hy35 => ((intro w hSw; (try dsimp only at hSw); (try go_split_ands); go_simp); try with_reducible rfl)
  simp only [Act.put, List.setIfInBounds_toArray, List.set_cons_zero, List.set_cons_succ]
  refine takeH (i := 35) (d := (some 130)) (v := ?v36) rfl rfl (by kernel_rfl) (by kernel_rfl) (by kernel_rfl) (fun _ _ _ h => h) (by rfl) ?hy36 (by assumption) ?_
  case hy36 => ((intro w hSw; (try dsimp only at hSw); (try go_split_ands); go_simp); try with_reducible rfl)
  simp only [Act.put, List.setIfInBounds_toArray, List.set_cons_zero, List.set_cons_succ]
  refine takeH (i := 36) (d := (some 131)) (v := ?v37) rfl rfl (by kernel_rfl) (by kernel_rfl) (by kernel_rfl) (fun _ _ _ h => h) (by rfl) ?hy37 (by assumption) ?_
  case hy37 => ((intro w hSw; (try dsimp only at hSw); (try go_split_ands); go_simp); try with_reducible rfl)
  simp only [Act.put, List.setIfInBounds_toArray, List.set_cons_zero, List.set_cons_succ]
  refine wpAnyH_ready (rs := [37]) (by kernel_rfl) (by simp) ?_
  refine AllReadyH.cons rfl (fun K hK => ?_) AllReadyH.nil
  go_simp
  refine (HL2.out _).mono ?_
  rintro e w16 ⟨rfl, rfl⟩
  go_wp2_with fail
  refine hK.out _ _ hHeld (fun hHeld => ?_)
  clear hK K
  refine takeH (i := 38) (d := (some 133)) (v := ?v39) rfl rfl (by kernel_rfl) (by kernel_rfl) (by kernel_rfl) (fun _ _ _ h => h) (by rfl) ?hy39 (by assumption) ?_
  case hy39 => ((intro w hSw; (try dsimp only at hSw); (try go_split_ands); go_simp); try with_reducible rfl)
  simp only [Act.put, List.setIfInBounds_toArray, List.set_cons_zero, List.set_cons_succ]
  refine takeH (i := 39) (d := (some 134)) (v := ?v40) rfl rfl (by kernel_rfl) (by kernel_rfl) (by kernel_rfl) (fun _ _ _ h => h) (by rfl) ?hy40 (by assumption) ?_
  case hy40 => ((intro w hSw; (try dsimp only at hSw); (try go_split_ands); go_simp); try with_reducible rfl)
  simp only [Act.put, List.setIfInBounds_toArray, List.set_cons_zero, List.set_cons_succ]
  refine wpAnyH_ready (rs := [40]) (by kernel_rfl) (by simp) ?_
  refine AllReadyH.cons rfl (fun K hK => ?_) AllReadyH.nil
  go_simp
  refine (l_works_any _).mono ?_
  rintro e w17 ⟨rfl, u17⟩
  go_wp2_with fail
  refine hK.out _ _ ⟨hHeld.1.trans u17, u17.blk hHeld.2.1, u17.blk hHeld.2.2.1, u17.blk hHeld.2.2.2⟩ (fun hHeld => ?_)
  clear hK K u17
  refine takeH (i := 41) (d := (some 136)) (v := ?v42) rfl rfl (by kernel_rfl) (by kernel_rfl) (by kernel_rfl) (fun _ _ _ h => h) (by rfl) ?hy42 (by assumption) ?_
  case hy42 => ((intro w hSw; (try dsimp only at hSw); (try go_split_ands); go_simp); try with_reducible rfl)
  simp only [Act.put, List.setIfInBounds_toArray, List.set_cons_zero, List.set_cons_succ]
  refine takeH (i := 42) (d := (some 4)) (v := ?v43) rfl rfl (by kernel_rfl) (by kernel_rfl) (by kernel_rfl) (fun _ _ _ h => h) (by rfl) ?hy43 (by assumption) ?_
  case hy43 => ((intro w hSw; (try dsimp only at hSw); (try go_split_ands); go_simp); try with_reducible rfl)
  simp only [Act.put, List.setIfInBounds_toArray, List.set_cons_zero, List.set_cons_succ]
  refine wpAnyH_done (by kernel_rfl) ?_ _
  go_wp2
  go_ret
  exact ⟨rfl, hHeld.1⟩

end Go.Proofs.Ytfmnfingliflkaa
