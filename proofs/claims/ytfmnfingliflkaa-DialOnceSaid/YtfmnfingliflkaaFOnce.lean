import Derived.Test.YtfmnfingliflkaaTickF
/- The walk of the law DialOnce. -/
namespace Go.Proofs.Ytfmnfingliflkaa
open Go.RowKit
attribute [local go_sem] cell_TW7

set_option maxRecDepth 100000 in
set_option maxHeartbeats 1000000 in
theorem dialOnce_no {h m s N : Int} {a : Option Addr} {n c : Nat} {L : List (Int × Bool)} {ah : Int} {a' : Option Addr} {n' c' : Nat} {M : List (Int × Int)} {w : World} (A : CalArg w a n c L) (B : TownArg w a' n' c' M) (p0 p1 p2 p3 n0 : Int) (hf : D.fits h m s N L ah M = false) :
    Calls Try.prog 13 #[.agg #[.int .i64 h, .int .i64 m, .int .i64 s, .int .i64 N, .slice a n c, .int .i64 ah, .slice a' n' c'], rd p0 p1 p2 p3, .int .i64 n0] w fun e w' => e = .returned (.bool true) ∧ Up w w' := by
  have U0 := ((Up.refl w).alloc (.cells #[.int .i64 h, .int .i64 m, .int .i64 s, .int .i64 N, .slice a n c, .int .i64 ah, .slice a' n' c'] 46)).alloc (.cells #[.int .i64 p0, .int .i64 p1, .int .i64 p2, .int .i64 p3] 27)
  have HF := Lib.hid (fun w' (u : Up w w') => l_fit_any (h := h) (m := m) (s := s) (d := N) (ah := ah) (c := c) (c' := c') (A.up u) (B.up u))
  rw [hf] at HF
  have hE : D.townE h m s N L ah M = 10 ∨ D.townE h m s N L ah M = 12 := by
    unfold D.townE
    split
    · rename_i hv
      rw [D.fits, hv, Bool.true_and] at hf
      rw [if_neg (by rw [hf]; simp)]
      exact .inr rfl
    · exact .inl rfl
  have hne : ¬ D.townE h m s N L ah M = 0 := by rcases hE with e | e <;> rw [e] <;> simp
  have HT := Lib.hid (fun w' (u : Up w w') => Ticks_no (h := h) (m := m) (s := s) (d := N) (c := c) (c' := c') (A.up u) (B.up u) p0 p1 p2 p3 hne)
  obtain ⟨E, hEE⟩ : ∃ E, D.townE h m s N L ah M = E := ⟨_, rfl⟩
  rw [hEE] at hE HT
  clear A B hf hEE hne
  rcases hE with rfl | rfl
  all_goals
    go_enter Try.func13, Try.ntmps13
    go_wp2_with fail
    have c0 : mblk ((w.alloc (.cells #[.int .i64 h, .int .i64 m, .int .i64 s, .int .i64 N, .slice a n c, .int .i64 ah, .slice a' n' c'] 46)).alloc (.cells #[.int .i64 p0, .int .i64 p1, .int .i64 p2, .int .i64 p3] 27)) w.heap.size = some (.cells #[.int .i64 h, .int .i64 m, .int .i64 s, .int .i64 N, .slice a n c, .int .i64 ah, .slice a' n' c'] 46 (0, 0)) := blk_keep _ (blk_new _ _ _ rfl)
    refine (HT.out _ U0).mono ?_
    rintro e w1 ⟨rfl, u1⟩
    have U1 := U0.trans u1
    have c1 := u1.blk c0
    have f1 := cellB c1
    clear u1 U0 c0 HT
    go_wp2_with fail
    refine (HF.out _ U1).mono ?_
    rintro e w2 ⟨rfl, u2⟩
    go_wp2_with fail
    refine (l_works_any _).mono ?_
    rintro e w3 ⟨rfl, u3⟩
    go_wp2
    go_ret
    exact ⟨rfl, (U1.trans u2).trans u3⟩

set_option maxRecDepth 100000 in
set_option maxHeartbeats 4000000 in
theorem dialOnce_yes {h m s : Int} {N : Nat} {a : Option Addr} {n c : Nat} {L : List (Int × Bool)} {ah : Int} {a' : Option Addr} {n' c' : Nat} {M : List (Int × Int)} {w : World} (A : CalArg w a n c L) (B : TownArg w a' n' c' M) (p0 p1 p2 p3 n0 : Int) (hv : D.valid h m s N L = true) (ht : D.townOk (D.beg h m s (D.deeds L L.length) N) ah M = true) :
    Calls Try.prog 13 #[.agg #[.int .i64 h, .int .i64 m, .int .i64 s, .int .i64 N, .slice a n c, .int .i64 ah, .slice a' n' c'], rd p0 p1 p2 p3, .int .i64 n0] w fun e w' => e = .returned (.bool true) ∧ Up w w' := by
  have U0 := ((Up.refl w).alloc (.cells #[.int .i64 h, .int .i64 m, .int .i64 s, .int .i64 N, .slice a n c, .int .i64 ah, .slice a' n' c'] 46)).alloc (.cells #[.int .i64 p0, .int .i64 p1, .int .i64 p2, .int .i64 p3] 27)
  have hf : D.fits h m s N L ah M = true := by rw [D.fits, hv, Bool.true_and, Int.toNat_natCast]; exact ht
  have HF := Lib.hid (fun w' (u : Up w w') => l_fit_any (h := h) (m := m) (s := s) (d := N) (ah := ah) (c := c) (c' := c') (A.up u) (B.up u))
  rw [hf] at HF
  obtain ⟨h1, h2, m1, m2, s1, s2, d1, d2⟩ := D.valid_bd hv
  have tb := D.beg_bd h m s (D.deeds L L.length) h1 h2 m1 m2 s1 s2 N
  have hl' := B.len
  obtain ⟨a1, a2, ml, mb, mi⟩ := D.town_bd ht
  have ht2 : D.townOk (D.beg h m s (D.deeds L L.length) N) ah [] = true := by
    simp only [D.townOk, Bool.and_eq_true] at ht ⊢
    exact ⟨ht.1, by simp [D.aheads, D.incr]⟩
  have i0 := Int.emod_nonneg n0 (show D.beg h m s (D.deeds L L.length) N ≠ 0 by omega)
  have i1 := Int.emod_lt_of_pos n0 (show 0 < D.beg h m s (D.deeds L L.length) N by omega)
  obtain ⟨t, hi⟩ : ∃ t, n0 % D.beg h m s (D.deeds L L.length) N = t := ⟨_, rfl⟩
  rw [hi] at i0 i1
  have mem := D.ticks_mem h1 h2 m1 m2 s1 s2 (by omega) ht p0 p1 p2 p3
  have HTot := Lib.hid (fun w' (u : Up w w') => l_ticksOf_any (h := h) (m := m) (s := s) (c := c) (A.up u) hv)
  have HTicks := Lib.hid (fun w' (u : Up w w') => Ticks_yes (h := h) (m := m) (s := s) (d := N) (c := c) (c' := c') (A.up u) (B.up u) p0 p1 p2 p3 hv ht)
  have HTick2 := Lib.hid (fun w' (u : Up w w') => Ticks_yes (h := h) (m := m) (s := s) (d := N) (c := c) (ah := ah) (A.up u) (TownArg.none w') p0 p1 p2 p3 hv ht2)
  have HLocal := fun t w' (u : Up w w') hb => Local_yes (h := h) (m := m) (s := s) (d := N) (c := c) (c' := c') (A.up u) (B.up u) t hv ht hb
  rw [Int.toNat_natCast] at HTot HTicks HTick2 HLocal
  have HIn := Lib.hid (fun q (hq : q ∈ D.ticksV h m s N (D.deeds L L.length) ah M p0 p1 p2 p3) w' (u : Up w w') => show Calls Try.prog 31 #[.agg #[.int .i64 h, .int .i64 m, .int .i64 s, .int .i64 N, .slice a n c], .agg #[.int .i64 ah, .slice a' n' c'], .int .i64 q] w' fun e w'' => e = .returned (.tuple #[rd p0 p1 p2 p3, .int .i64 0]) ∧ Up w' w'' by
    obtain ⟨q0, q1, e1, e2, e3, e4⟩ := (mem q).1 hq
    have K := HLocal q w' u (inB_yes q0 (by omega))
    rw [e1, e2, e3, e4] at K
    exact K)
  have HOth := Lib.hid (fun w' (u : Up w w') => HLocal t w' u (inB_yes i0 (by omega)))
  have hmem := mem t
  have hclimb := D.ticks_climb h1 h2 m1 m2 s1 s2 (by omega) ht p0 p1 p2 p3
  have hlen := D.ticks_len (h := h) (m := m) (s := s) (n := N) (x := D.deeds L L.length) (ah := ah) (M := M) p0 p1 p2 p3
  have hlen2 := D.ticks_len (h := h) (m := m) (s := s) (n := N) (x := D.deeds L L.length) (ah := ah) (M := []) p0 p1 p2 p3
  generalize D.ltick h m s (D.deeds L L.length) N ah M t / (h * m) = S1 at *
  generalize D.ltick h m s (D.deeds L L.length) N ah M t % (h * m) / m = S2 at *
  generalize D.ltick h m s (D.deeds L L.length) N ah M t % (h * m) % m = S3 at *
  generalize D.rS h m s (D.deeds L L.length) N t = S4 at *
  generalize D.ticksV h m s N (D.deeds L L.length) ah M p0 p1 p2 p3 = l at *
  generalize D.ticksV h m s N (D.deeds L L.length) ah [] p0 p1 p2 p3 = l2 at *
  generalize D.beg h m s (D.deeds L L.length) N = T at *
  have hfind := D.find_mem t l 0 (Int.le_refl _)
  obtain ⟨fz, hfz⟩ : ∃ fz, D.find t 0 l = fz := ⟨_, rfl⟩
  rw [hfz] at hfind
  have HFnd := Lib.hid (fun w' v (S : D.Sl w' v l) => l_Find_any S t)
  have HClm := Lib.hid (fun w' v (S : D.Sl w' v l) => l_Climbs_any S T)
  rw [hfz] at HFnd
  rw [hclimb] at HClm
  obtain ⟨f1, hf1⟩ : ∃ f1, (S1 == p0) = f1 := ⟨_, rfl⟩
  obtain ⟨f2, hf2⟩ : ∃ f2, (S2 == p1) = f2 := ⟨_, rfl⟩
  obtain ⟨f3, hf3⟩ : ∃ f3, (S3 == p2) = f3 := ⟨_, rfl⟩
  obtain ⟨f4, hf4⟩ : ∃ f4, (S4 == p3) = f4 := ⟨_, rfl⟩
  obtain ⟨bb, hbb⟩ : ∃ bb, decide (0 ≤ fz) = bb := ⟨_, rfl⟩
  have hB : (f1 && (f2 && (f3 && f4))) = bb := by
    rw [← hbb, ← hf1, ← hf2, ← hf3, ← hf4]
    apply Bool.eq_iff_iff.2
    simp only [Bool.and_eq_true, beq_iff_eq, decide_eq_true_eq]
    rw [hfind, hmem]
    exact ⟨fun q => ⟨i0, i1, q.1, q.2.1, q.2.2.1, q.2.2.2⟩, fun q => ⟨q.2.2.1, q.2.2.2.1, q.2.2.2.2.1, q.2.2.2.2.2⟩⟩
  have hC : ∀ w : World, (if f1 = false then Result.ok (Next.value (Value.bool false)) w else if f2 = false then Result.ok (Next.value (Value.bool false)) w else if f3 = false then Result.ok (Next.value (Value.bool false)) w else if f4 = false then Result.ok (Next.value (Value.bool false)) w else Result.ok (Next.value (Value.bool true)) w) = Result.ok (Next.value (Value.bool bb)) w := fun w => by
    rw [← hB]; cases f1 <;> cases f2 <;> cases f3 <;> cases f4 <;> rfl
  clear hB
  have l6 : l.length ≤ 1000000 := by omega
  have L6 := Lib.hid l6
  have L7 : Hid (l2.length ≤ 1000000) := by simp at hlen2; show l2.length ≤ 1000000; omega
  have n7 : IntKind.i64.wrap ((n' : Int) + 1) = (n' : Int) + 1 := IntWalk.i64_in _ (by omega)
  have ln7 : ¬ ((n' : Int) + 1 < (l.length : Int)) := by omega
  have l27 : ((l2.length : Int) ≤ 1) := by simp at hlen2; omega
  have HI := Lib.hid hi
  clear A B hv ht ht2 hf mem hmem hclimb hlen hlen2 mb mi HLocal hl' hfz hi l6 ml hfind
  go_enter Try.func13, Try.ntmps13
  go_wp2_with fail
  have c0 : mblk ((w.alloc (.cells #[.int .i64 h, .int .i64 m, .int .i64 s, .int .i64 N, .slice a n c, .int .i64 ah, .slice a' n' c'] 46)).alloc (.cells #[.int .i64 p0, .int .i64 p1, .int .i64 p2, .int .i64 p3] 27)) w.heap.size = some (.cells #[.int .i64 h, .int .i64 m, .int .i64 s, .int .i64 N, .slice a n c, .int .i64 ah, .slice a' n' c'] 46 (0, 0)) := blk_keep _ (blk_new _ _ _ rfl)
  have r0 : mblk ((w.alloc (.cells #[.int .i64 h, .int .i64 m, .int .i64 s, .int .i64 N, .slice a n c, .int .i64 ah, .slice a' n' c'] 46)).alloc (.cells #[.int .i64 p0, .int .i64 p1, .int .i64 p2, .int .i64 p3] 27)) (w.heap.size + 1) = some (.cells #[.int .i64 p0, .int .i64 p1, .int .i64 p2, .int .i64 p3] 27 (0, 0)) := blk_new _ _ _ (by simp)
  refine (HTicks.out _ U0).mono ?_
  rintro e w1 ⟨v, rfl, u1, hNI⟩
  obtain ⟨a1', c1', rfl, S1l, S1m⟩ := hNI.sl L6.out
  have SS := Lib.hid (show D.Sl w1 (.slice a1' l.length c1') l from ⟨a1', c1', rfl, S1l, S1m⟩)
  have U1 := U0.trans u1
  have c1 := u1.blk c0
  have r1 := u1.blk r0
  have f1' := cellB c1
  clear u1 U0 c0 r0 HTicks hNI S1l S1m
  go_wp2_with fail
  refine (HF.out _ U1).mono ?_
  rintro e w2 ⟨rfl, u2⟩
  have SS2 := Lib.hid (SS.out.up u2)
  have U2 := U1.trans u2
  have c2 := u2.blk c1
  have r2 := u2.blk r1
  have f2' := cellB c2
  clear u2 U1 c1 r1 HF f1' SS
  go_wp2_with fail
  refine (HTot.out _ U2).mono ?_
  rintro e w3 ⟨rfl, u3⟩
  have SS3 := Lib.hid (SS2.out.up u3)
  have U3 := U2.trans u3
  have c3 := u3.blk c2
  have r3 := u3.blk r2
  have f3' := cellB c3
  clear u3 U2 c2 r2 HTot f2' SS2
  go_wp2_with fail
  refine (HClm.out _ _ SS3.out).mono ?_
  rintro e w4 ⟨rfl, u4⟩
  have S4' := SS3.out.up u4
  have U4 := U3.trans u4
  have c4 := u4.blk c3
  have r4 := u4.blk r3
  have f4' := cellB c4
  clear u4 U3 c3 r3 HClm f3' SS3
  go_wp2_with fail
  go_loopw [11] (fun i wr => ∃ j : Nat, j ≤ l.length ∧ i = .int .i64 j ∧ mblk wr w.heap.size = some (.cells #[.int .i64 h, .int .i64 m, .int .i64 s, .int .i64 N, .slice a n c, .int .i64 ah, .slice a' n' c'] 46 (0, 0)) ∧ mblk wr (w.heap.size + 1) = some (.cells #[.int .i64 p0, .int .i64 p1, .int .i64 p2, .int .i64 p3] 27 (0, 0)) ∧ D.Sl wr (.slice a1' l.length c1') l ∧ Up w wr) (fun i _ => l.length - (intOf i).toNat)
  case atStart => exact ⟨0, Nat.zero_le _, rfl, c4, r4, S4', U4⟩
  case round =>
    clear c4 r4 S4' U4 f4'
    obtain ⟨j, hj, rfl, cj, rj, Sj, Uj⟩ := hrel
    by_cases hlt : j < l.length
    · obtain ⟨a2', c2', e2', _, Sm⟩ := Sj
      obtain ⟨g, eg, gl, gc⟩ := Sm (by omega)
      injection e2' with e3' e4' e5'
      have gj := gc j hlt
      have hin : l.getD j 0 ∈ l := by
        rw [List.getD_eq_getElem?_getD, List.getElem?_eq_getElem hlt]
        exact List.getElem_mem hlt
      have HI2 := Lib.hid (HIn.out _ hin)
      obtain ⟨q, hq⟩ : ∃ q, l.getD j 0 = q := ⟨_, rfl⟩
      rw [hq] at gj HI2
      rw [← e3'] at eg
      subst eg
      have Sj' : D.Sl wr (.slice (some ⟨g, 0, none⟩) l.length c1') l := ⟨_, _, rfl, by assumption, fun _ => ⟨g, rfl, gl, gc⟩⟩
      clear e3' e5' hq hin gc gl Sm HIn HOth HFnd HTick2 e4'
      go_wp2_with fail
      refine wp_region_held_drew (S := fun w' => Up w w' ∧ mblk w' w.heap.size = some (.cells #[.int .i64 h, .int .i64 m, .int .i64 s, .int .i64 N, .slice a n c, .int .i64 ah, .slice a' n' c'] 46 (0, 0)) ∧ mblk w' (w.heap.size + 1) = some (.cells #[.int .i64 p0, .int .i64 p1, .int .i64 p2, .int .i64 p3] 27 (0, 0)) ∧ D.Sl w' (.slice (some ⟨g, 0, none⟩) l.length c1') l ∧ w'.cell? ⟨g, j, none⟩ = some (.int .i64 q)) (by kernel_rfl) ⟨Uj.drew, by rw [blk_drew]; exact cj, by rw [blk_drew]; exact rj, Sj'.up (Up.refl _).drew, gj⟩ (fun hHeld => ?_)
      clear Uj cj rj Sj' gj
      refine takeH (i := 0) (d := (some 80)) (v := ?v1) rfl rfl (by kernel_rfl) (by kernel_rfl) (by kernel_rfl) (fun _ _ _ h => h) (by rfl) ?hy1 (by assumption) ?_
      case hy1 => ((intro w hSw; (try dsimp only at hSw); (try go_split_ands); go_simp); try with_reducible rfl)
      simp only [Act.put, List.setIfInBounds_toArray, List.set_cons_zero, List.set_cons_succ]
      refine takeH (i := 2) (d := (some 82)) (v := ?v2) rfl rfl (by kernel_rfl) (by kernel_rfl) (by kernel_rfl) (fun _ _ _ h => h) (by rfl) ?hy2 (by assumption) ?_
      case hy2 => ((intro w hSw; (try dsimp only at hSw); (try go_split_ands); go_simp); try with_reducible rfl)
      simp only [Act.put, List.setIfInBounds_toArray, List.set_cons_zero, List.set_cons_succ]
      refine takeH (i := 4) (d := (some 84)) (v := ?v3) rfl rfl (by kernel_rfl) (by kernel_rfl) (by kernel_rfl) (fun _ _ _ h => h) (by rfl) ?hy3 (by assumption) ?_
      case hy3 => ((intro w hSw; (try dsimp only at hSw); (try go_split_ands); go_simp); try with_reducible rfl)
      simp only [Act.put, List.setIfInBounds_toArray, List.set_cons_zero, List.set_cons_succ]
      refine takeH (i := 5) (d := (some 85)) (v := ?v4) rfl rfl (by kernel_rfl) (by kernel_rfl) (by kernel_rfl) (fun _ _ _ h => h) (by rfl) ?hy4 (by assumption) ?_
      case hy4 => ((intro w hSw; (try dsimp only at hSw); (try go_split_ands); go_simp); try with_reducible rfl)
      simp only [Act.put, List.setIfInBounds_toArray, List.set_cons_zero, List.set_cons_succ]
      refine takeH (i := 1) (d := (some 81)) (v := ?v5) rfl rfl (by kernel_rfl) (by kernel_rfl) (by kernel_rfl) (fun _ _ _ h => h) (by rfl) ?hy5 (by assumption) ?_
      case hy5 => ((intro w hSw; (try dsimp only at hSw); (try go_split_ands); go_simp); try with_reducible rfl)
      simp only [Act.put, List.setIfInBounds_toArray, List.set_cons_zero, List.set_cons_succ]
      refine takeH (i := 3) (d := (some 83)) (v := ?v6) rfl rfl (by kernel_rfl) (by kernel_rfl) (by kernel_rfl) (fun _ _ _ h => h) (by rfl) ?hy6 (by assumption) ?_
      case hy6 => ((intro w hSw; (try dsimp only at hSw); (try go_split_ands); go_simp); try with_reducible rfl)
      simp only [Act.put, List.setIfInBounds_toArray, List.set_cons_zero, List.set_cons_succ]
      refine takeH (i := 6) (d := (some 86)) (v := ?v7) rfl rfl (by kernel_rfl) (by kernel_rfl) (by kernel_rfl) (fun _ _ _ h => h) (by rfl) ?hy7 (by assumption) ?_
      case hy7 => ((intro w hSw; (try dsimp only at hSw); (try go_split_ands); go_simp); try with_reducible rfl)
      simp only [Act.put, List.setIfInBounds_toArray, List.set_cons_zero, List.set_cons_succ]
      refine takeH (i := 7) (d := (some 87)) (v := ?v8) rfl rfl (by kernel_rfl) (by kernel_rfl) (by kernel_rfl) (fun _ _ _ h => h) (by rfl) ?hy8 (by assumption) ?_
      case hy8 => ((intro w hSw; (try dsimp only at hSw); (try go_split_ands); go_simp); try with_reducible rfl)
      simp only [Act.put, List.setIfInBounds_toArray, List.set_cons_zero, List.set_cons_succ]
      refine wpAnyH_ready (rs := [8, 12]) (by kernel_rfl) (by simp) ?_
      refine AllReadyH.cons rfl (fun K hK => ?_) (AllReadyH.cons rfl (fun K hK => ?_) AllReadyH.nil)
      · go_simp
        refine (HI2.out _ hHeld.1).mono ?_
        rintro e w5 ⟨rfl, u5⟩
        go_wp2_with fail
        refine hK.out _ _ ⟨hHeld.1.trans u5, u5.blk hHeld.2.1, u5.blk hHeld.2.2.1, hHeld.2.2.2.1.up u5, (u5.facts.1 g j (World.block_lt_of_cell? _ _ hHeld.2.2.2.2)).trans hHeld.2.2.2.2⟩ (fun hHeld => ?_)
        clear hK K u5
        refine takeH (i := 9) (d := (some 79)) (v := ?v9) rfl rfl (by kernel_rfl) (by kernel_rfl) (by kernel_rfl) (fun _ _ _ h => h) (by rfl) ?hy9 (by assumption) ?_
        case hy9 => ((intro w hSw; (try dsimp only at hSw); (try go_split_ands); go_simp); try with_reducible rfl)
        simp only [Act.put, List.setIfInBounds_toArray, List.set_cons_zero, List.set_cons_succ]
        refine takeH (i := 10) (d := (some 89)) (v := ?v10) rfl rfl (by kernel_rfl) (by kernel_rfl) (by kernel_rfl) (fun _ _ _ h => h) (by rfl) ?hy10 (by assumption) ?_
        case hy10 => ((intro w hSw; (try dsimp only at hSw); (try go_split_ands); go_simp); try with_reducible rfl)
        simp only [Act.put, List.setIfInBounds_toArray, List.set_cons_zero, List.set_cons_succ]
        refine takeH (i := 11) (d := (some 90)) (v := ?v11) rfl rfl (by kernel_rfl) (by kernel_rfl) (by kernel_rfl) (fun _ _ _ h => h) (by rfl) ?hy11 (by assumption) ?_
        case hy11 => ((intro w hSw; (try dsimp only at hSw); (try go_split_ands); go_simp); try with_reducible rfl)
        simp only [Act.put, List.setIfInBounds_toArray, List.set_cons_zero, List.set_cons_succ]
        have S5 := hHeld
        refine wpAnyH_ready (rs := [12]) (by kernel_rfl) (by simp) ?_
        refine AllReadyH.cons rfl (fun K hK => ?_) AllReadyH.nil
        go_simp
        obtain ⟨W6, hW6⟩ : ∃ W6, w5.alloc (.cells #[.int .i64 0, .int .i64 0, .int .i64 0, .int .i64 0] 27) = W6 := ⟨_, rfl⟩
        obtain ⟨b, hb⟩ : ∃ b, w5.heap.size = b := ⟨_, rfl⟩
        have z6 : mblk W6 b = some (.cells #[.int .i64 0, .int .i64 0, .int .i64 0, .int .i64 0] 27 (0, 0)) := by rw [← hW6]; exact blk_new _ _ _ hb.symm
        have V6 : Up w5 W6 := by rw [← hW6]; exact (Up.refl _).alloc _
        rw [hb, hW6]
        refine hK.out _ _ ⟨S5.1.trans V6, V6.blk S5.2.1, V6.blk S5.2.2.1, S5.2.2.2.1.up V6, (V6.facts.1 g j (World.block_lt_of_cell? _ _ S5.2.2.2.2)).trans S5.2.2.2.2⟩ (fun hHeld => ?_)
        clear hK K hW6
        have f6 := cellB z6
        have y6 := frozB z6
        refine wpAnyH_ready (rs := [13]) (by kernel_rfl) (by simp) ?_
        refine AllReadyH.cons rfl (fun K hK => ?_) AllReadyH.nil
        go_simp
        obtain ⟨W7, hW7⟩ : ∃ W7, ((((W6.setCell ⟨b, 0, none⟩ (.int .i64 p0)).setCell ⟨b, 1, none⟩ (.int .i64 p1)).setCell ⟨b, 2, none⟩ (.int .i64 p2)).setCell ⟨b, 3, none⟩ (.int .i64 p3)) = W7 := ⟨_, rfl⟩
        have z7 : mblk W7 b = some (.cells #[.int .i64 p0, .int .i64 p1, .int .i64 p2, .int .i64 p3] 27 (0, 0)) := by rw [← hW7]; exact set4_same z6 _ _ _ _
        have V7 : Up w5 W7 := by rw [← hW7]; exact V6.set4 (by omega) _ _ _ _
        rw [hW7]
        refine hK.out _ _ ⟨S5.1.trans V7, V7.blk S5.2.1, V7.blk S5.2.2.1, S5.2.2.2.1.up V7, (V7.facts.1 g j (World.block_lt_of_cell? _ _ S5.2.2.2.2)).trans S5.2.2.2.2⟩ (fun hHeld => ?_)
        clear hK K hW7 V7 z6 S5
        refine takeH (i := 14) (d := (some 13)) (v := ?v14) rfl rfl (by kernel_rfl) (by kernel_rfl) (by kernel_rfl) (fun _ _ _ h => h) (by rfl) ?hy14 (by assumption) ?_
        case hy14 => ((intro w hSw; (try dsimp only at hSw); (try go_split_ands); go_simp); try with_reducible rfl)
        simp only [Act.put, List.setIfInBounds_toArray, List.set_cons_zero, List.set_cons_succ]
        refine wpAnyH_done (by kernel_rfl) ?_ _
        obtain ⟨UE, cE, rE, SE, _⟩ := hHeld
        have fE := cellB z7
        have gE := cellB rE
        clear z7
        go_wp2
        go_roundw
        case rel => exact ⟨j + 1, by omega, by go_num, cE, rE, SE, UE⟩
        case measure => simp [intOf]; omega
      · go_simp
        have S5 := hHeld
        obtain ⟨W5, hW5⟩ : ∃ W5, (wr.alloc (.cells #[.int .i64 0, .int .i64 0, .int .i64 0, .int .i64 0] 27)).drew = W5 := ⟨_, rfl⟩
        obtain ⟨b, hb⟩ : ∃ b, wr.heap.size = b := ⟨_, rfl⟩
        have z5 : mblk W5 b = some (.cells #[.int .i64 0, .int .i64 0, .int .i64 0, .int .i64 0] 27 (0, 0)) := by rw [← hW5, blk_drew]; exact blk_new _ _ _ hb.symm
        have V5 : Up wr.drew W5 := by rw [← hW5]; exact (Up.refl wr.drew).alloc (.cells #[.int .i64 0, .int .i64 0, .int .i64 0, .int .i64 0] 27)
        rw [hb, hW5]
        refine hK.out _ _ ⟨S5.1.trans V5, V5.blk S5.2.1, V5.blk S5.2.2.1, S5.2.2.2.1.up V5, (V5.facts.1 g j (World.block_lt_of_cell? _ _ S5.2.2.2.2)).trans S5.2.2.2.2⟩ (fun hHeld => ?_)
        clear hK K hW5
        refine wpAnyH_ready (rs := [8]) (by kernel_rfl) (by simp) ?_
        refine AllReadyH.cons rfl (fun K hK => ?_) AllReadyH.nil
        go_simp
        refine (HI2.out _ hHeld.1).mono ?_
        rintro e w6 ⟨rfl, u6⟩
        go_wp2_with fail
        refine hK.out _ _ ⟨hHeld.1.trans u6, u6.blk hHeld.2.1, u6.blk hHeld.2.2.1, hHeld.2.2.2.1.up u6, (u6.facts.1 g j (World.block_lt_of_cell? _ _ hHeld.2.2.2.2)).trans hHeld.2.2.2.2⟩ (fun hHeld => ?_)
        have z6 := u6.blk z5
        have V6 : Up wr.drew w6 := V5.trans u6
        clear hK K u6 z5
        refine takeH (i := 9) (d := (some 79)) (v := ?v16) rfl rfl (by kernel_rfl) (by kernel_rfl) (by kernel_rfl) (fun _ _ _ h => h) (by rfl) ?hy16 (by assumption) ?_
        case hy16 => ((intro w hSw; (try dsimp only at hSw); (try go_split_ands); go_simp); try with_reducible rfl)
        simp only [Act.put, List.setIfInBounds_toArray, List.set_cons_zero, List.set_cons_succ]
        refine takeH (i := 10) (d := (some 89)) (v := ?v17) rfl rfl (by kernel_rfl) (by kernel_rfl) (by kernel_rfl) (fun _ _ _ h => h) (by rfl) ?hy17 (by assumption) ?_
        case hy17 => ((intro w hSw; (try dsimp only at hSw); (try go_split_ands); go_simp); try with_reducible rfl)
        simp only [Act.put, List.setIfInBounds_toArray, List.set_cons_zero, List.set_cons_succ]
        refine takeH (i := 11) (d := (some 90)) (v := ?v18) rfl rfl (by kernel_rfl) (by kernel_rfl) (by kernel_rfl) (fun _ _ _ h => h) (by rfl) ?hy18 (by assumption) ?_
        case hy18 => ((intro w hSw; (try dsimp only at hSw); (try go_split_ands); go_simp); try with_reducible rfl)
        simp only [Act.put, List.setIfInBounds_toArray, List.set_cons_zero, List.set_cons_succ]
        have f6 := cellB z6
        have y6 := frozB z6
        refine wpAnyH_ready (rs := [13]) (by kernel_rfl) (by simp) ?_
        refine AllReadyH.cons rfl (fun K hK => ?_) AllReadyH.nil
        go_simp
        obtain ⟨W7, hW7⟩ : ∃ W7, ((((w6.setCell ⟨b, 0, none⟩ (.int .i64 p0)).setCell ⟨b, 1, none⟩ (.int .i64 p1)).setCell ⟨b, 2, none⟩ (.int .i64 p2)).setCell ⟨b, 3, none⟩ (.int .i64 p3)) = W7 := ⟨_, rfl⟩
        have z7 : mblk W7 b = some (.cells #[.int .i64 p0, .int .i64 p1, .int .i64 p2, .int .i64 p3] 27 (0, 0)) := by rw [← hW7]; exact set4_same z6 _ _ _ _
        have hbd : wr.drew.heap.size = b := hb
        have V7 : Up wr.drew W7 := by rw [← hW7]; exact V6.set4 (by omega) _ _ _ _
        rw [hW7]
        refine hK.out _ _ ⟨S5.1.trans V7, V7.blk S5.2.1, V7.blk S5.2.2.1, S5.2.2.2.1.up V7, (V7.facts.1 g j (World.block_lt_of_cell? _ _ S5.2.2.2.2)).trans S5.2.2.2.2⟩ (fun hHeld => ?_)
        clear hK K hW7 V7 z6 S5
        refine takeH (i := 14) (d := (some 13)) (v := ?v20) rfl rfl (by kernel_rfl) (by kernel_rfl) (by kernel_rfl) (fun _ _ _ h => h) (by rfl) ?hy20 (by assumption) ?_
        case hy20 => ((intro w hSw; (try dsimp only at hSw); (try go_split_ands); go_simp); try with_reducible rfl)
        simp only [Act.put, List.setIfInBounds_toArray, List.set_cons_zero, List.set_cons_succ]
        refine wpAnyH_done (by kernel_rfl) ?_ _
        obtain ⟨UE, cE, rE, SE, _⟩ := hHeld
        have fE := cellB z7
        have gE := cellB rE
        clear z7
        go_wp2
        go_roundw
        case rel => exact ⟨j + 1, by omega, by go_num, cE, rE, SE, UE⟩
        case measure => simp [intOf]; omega
    · obtain rfl : j = l.length := by omega
      have gj := cellB cj
      have SS4 := Lib.hid Sj
      clear Sj HIn
      go_wp2_with fail
      refine (l_Rest_any _ _ _ (by omega) (by omega)).mono ?_
      rintro e w5 ⟨rfl, rfl⟩
      rw [HI.out]
      go_wp2_with fail
      refine (HOth.out _ Uj).mono ?_
      rintro e w5 ⟨rfl, u5⟩
      have SS5 := Lib.hid (SS4.out.up u5)
      have U5 := Uj.trans u5
      have c5 := u5.blk cj
      have r5 := u5.blk rj
      have f5 := cellB c5
      have g5 := cellB r5
      have s5 := blk_lt c5
      have t5 := blk_lt r5
      clear u5 Uj cj rj SS4 HOth gj
      go_wp2_with fail
      obtain ⟨W6, hW6⟩ : ∃ W6, w5.alloc (.cells #[.int .i64 S1, .int .i64 S2, .int .i64 S3, .int .i64 S4] 27) = W6 := ⟨_, rfl⟩
      obtain ⟨q, hq⟩ : ∃ q, w5.heap.size = q := ⟨_, rfl⟩
      have q6 : mblk W6 q = some (.cells #[.int .i64 S1, .int .i64 S2, .int .i64 S3, .int .i64 S4] 27 (0, 0)) := by rw [← hW6]; exact blk_new _ _ _ hq.symm
      have r6 : mblk W6 (w.heap.size + 1) = some (.cells #[.int .i64 p0, .int .i64 p1, .int .i64 p2, .int .i64 p3] 27 (0, 0)) := by rw [← hW6]; exact blk_keep _ r5
      have U6 : Up w W6 := by rw [← hW6]; exact U5.alloc _
      have SS6 : D.Sl W6 (.slice a1' l.length c1') l := by rw [← hW6]; exact SS5.out.up ((Up.refl _).alloc _)
      rw [hq, hW6]
      clear hW6 hq U5 c5 r5 f5 g5 s5 t5 SS5
      refine (HTick2.out _ U6).mono ?_
      rintro e w7 ⟨v2, rfl, u7, hNI⟩
      obtain ⟨a2', c2', rfl, _, _⟩ := hNI.sl L7.out
      have U7 := U6.trans u7
      have q7 := u7.blk q6
      have r7 := u7.blk r6
      have S7 := SS6.up u7
      clear u7 U6 q6 r6 SS6 hNI HTick2
      go_wp2_with fail
      refine wp_region_held_drew (S := fun w' => Up w w' ∧ mblk w' (w.heap.size + 1) = some (.cells #[.int .i64 p0, .int .i64 p1, .int .i64 p2, .int .i64 p3] 27 (0, 0)) ∧ mblk w' q = some (.cells #[.int .i64 S1, .int .i64 S2, .int .i64 S3, .int .i64 S4] 27 (0, 0)) ∧ D.Sl w' (.slice a1' l.length c1') l) (by kernel_rfl) ⟨U7.drew, by rw [blk_drew]; exact r7, by rw [blk_drew]; exact q7, S7.up (Up.refl _).drew⟩ (fun hHeld => ?_)
      clear U7 r7 q7 S7
      refine takeH (i := 0) (d := (some 121)) (v := ?v21) rfl rfl (by kernel_rfl) (by kernel_rfl) (by kernel_rfl) (fun _ _ _ h => h) (by rfl) ?hy21 (by assumption) ?_
      case hy21 => ((intro w hSw; (try dsimp only at hSw); (try go_split_ands); go_simp); try with_reducible rfl)
      simp only [Act.put, List.setIfInBounds_toArray, List.set_cons_zero, List.set_cons_succ]
      refine takeH (i := 1) (d := (some 122)) (v := ?v22) rfl rfl (by kernel_rfl) (by kernel_rfl) (by kernel_rfl) (fun _ _ _ h => h) (by rfl) ?hy22 (by assumption) ?_
      case hy22 => ((intro w hSw; (try dsimp only at hSw); (try go_split_ands); go_simp); try with_reducible rfl)
      simp only [Act.put, List.setIfInBounds_toArray, List.set_cons_zero, List.set_cons_succ]
      refine takeH (i := 2) (d := (some 123)) (v := ?v23) rfl rfl (by kernel_rfl) (by kernel_rfl) (by kernel_rfl) (fun _ _ _ h => h) (by rfl) ?hy23 (by assumption) ?_
      case hy23 => ((intro w hSw; (try dsimp only at hSw); (try go_split_ands); go_simp); try with_reducible rfl)
      simp only [Act.put, List.setIfInBounds_toArray, List.set_cons_zero, List.set_cons_succ]
      refine takeH (i := 3) (d := (some 124)) (v := ?v24) rfl rfl (by kernel_rfl) (by kernel_rfl) (by kernel_rfl) (fun _ _ _ h => h) (by rfl) ?hy24 (by assumption) ?_
      case hy24 => ((intro w hSw; (try dsimp only at hSw); (try go_split_ands); go_simp); try with_reducible rfl)
      simp only [Act.put, List.setIfInBounds_toArray, List.set_cons_zero, List.set_cons_succ]
      refine takeH (i := 4) (d := (some 125)) (v := ?v25) rfl rfl (by kernel_rfl) (by kernel_rfl) (by kernel_rfl) (fun _ _ _ h => h) (by rfl) ?hy25 (by assumption) ?_
      case hy25 => ((intro w hSw; (try dsimp only at hSw); (try go_split_ands); go_simp); try with_reducible rfl)
      simp only [Act.put, List.setIfInBounds_toArray, List.set_cons_zero, List.set_cons_succ]
      refine takeH (i := 5) (d := (some 126)) (v := ?v26) rfl rfl (by kernel_rfl) (by kernel_rfl) (by kernel_rfl) (fun _ _ _ h => h) (by rfl) ?hy26 (by assumption) ?_
      case hy26 => ((intro w hSw; (try dsimp only at hSw); (try go_split_ands); go_simp); try with_reducible rfl)
      simp only [Act.put, List.setIfInBounds_toArray, List.set_cons_zero, List.set_cons_succ]
      refine takeH (i := 6) (d := (some 127)) (v := ?v27) rfl rfl (by kernel_rfl) (by kernel_rfl) (by kernel_rfl) (fun _ _ _ h => h) (by rfl) ?hy27 (by assumption) ?_
      case hy27 => ((intro w hSw; (try dsimp only at hSw); (try go_split_ands); go_simp); try with_reducible rfl)
      simp only [Act.put, List.setIfInBounds_toArray, List.set_cons_zero, List.set_cons_succ]
      refine takeH (i := 7) (d := (some 128)) (v := ?v28) rfl rfl (by kernel_rfl) (by kernel_rfl) (by kernel_rfl) (fun _ _ _ h => h) (by rfl) ?hy28 (by assumption) ?_
      case hy28 => ((intro w hSw; (try dsimp only at hSw); (try go_split_ands); go_simp); try with_reducible rfl)
      simp only [Act.put, List.setIfInBounds_toArray, List.set_cons_zero, List.set_cons_succ]
      refine takeH (i := 8) (d := (some 129)) (v := ?v29) rfl rfl (by kernel_rfl) (by kernel_rfl) (by kernel_rfl) (fun _ _ _ h => h) (by rfl) ?hy29 (by assumption) ?_
      case hy29 => ((intro w hSw; (try dsimp only at hSw); (try go_split_ands); go_simp); try with_reducible rfl)
      simp only [Act.put, List.setIfInBounds_toArray, List.set_cons_zero, List.set_cons_succ]
      refine takeH (i := 10) (d := (some 131)) (v := ?v30) rfl rfl (by kernel_rfl) (by kernel_rfl) (by kernel_rfl) (fun _ _ _ h => h) (by rfl) ?hy30 (by assumption) ?_
      case hy30 => ((intro w hSw; (try dsimp only at hSw); (try go_split_ands); go_simp); try with_reducible rfl)
      simp only [Act.put, List.setIfInBounds_toArray, List.set_cons_zero, List.set_cons_succ]
      refine takeH (i := 11) (d := (some 132)) (v := ?v31) rfl rfl (by kernel_rfl) (by kernel_rfl) (by kernel_rfl) (fun _ _ _ h => h) (by rfl) ?hy31 (by assumption) ?_
      case hy31 => ((intro w hSw; (try dsimp only at hSw); (try go_split_ands); go_simp); try with_reducible rfl)
      simp only [Act.put, List.setIfInBounds_toArray, List.set_cons_zero, List.set_cons_succ]
      refine takeH (i := 9) (d := (some 130)) (v := ?v32) rfl rfl (by kernel_rfl) (by kernel_rfl) (by kernel_rfl) (fun _ _ _ h => h) (by rfl) ?hy32 (by assumption) ?_
      case hy32 => ((intro w hSw; (try dsimp only at hSw); (try go_split_ands); go_simp); try with_reducible rfl)
      simp only [Act.put, List.setIfInBounds_toArray, List.set_cons_zero, List.set_cons_succ]
      refine wpAnyH_ready (rs := [12]) (by kernel_rfl) (by simp) ?_
      refine AllReadyH.cons rfl (fun K hK => ?_) AllReadyH.nil
      go_simp
      refine (HFnd.out _ _ hHeld.2.2.2).mono ?_
      rintro e w8 ⟨rfl, u8⟩
      go_wp2_with fail
      refine hK.out _ _ ⟨hHeld.1.trans u8, u8.blk hHeld.2.1, u8.blk hHeld.2.2.1, hHeld.2.2.2.up u8⟩ (fun hHeld => ?_)
      clear hK K u8
      refine takeH (i := 13) (d := (some 134)) (v := ?v34) rfl rfl (by kernel_rfl) (by kernel_rfl) (by kernel_rfl) (fun _ _ _ h => h) (by rfl) ?hy34 (by assumption) ?_
      case hy34 => ((intro w hSw; (try dsimp only at hSw); (try go_split_ands); go_simp); try with_reducible rfl)
      simp only [Act.put, List.setIfInBounds_toArray, List.set_cons_zero, List.set_cons_succ]
      refine takeH (i := 14) (d := (some 135)) (v := ?v35) rfl rfl (by kernel_rfl) (by kernel_rfl) (by kernel_rfl) (fun _ _ _ h => h) (by rfl) ?hy35 (by assumption) ?_
      case hy35 => ((intro w hSw; (try dsimp only at hSw); (try go_split_ands); go_simp); try with_reducible rfl)
      simp only [Act.put, List.setIfInBounds_toArray, List.set_cons_zero, List.set_cons_succ]
      refine takeH (i := 15) (d := (some 136)) (v := ?v36) rfl rfl (by kernel_rfl) (by kernel_rfl) (by kernel_rfl) (fun _ _ _ h => h) (by rfl) ?hy36 (by assumption) ?_
      case hy36 => ((intro w hSw; (try dsimp only at hSw); (try go_split_ands); go_simp); try with_reducible rfl)
      simp only [Act.put, List.setIfInBounds_toArray, List.set_cons_zero, List.set_cons_succ]
      refine takeH (i := 16) (d := (some 137)) (v := ?v37) rfl rfl (by kernel_rfl) (by kernel_rfl) (by kernel_rfl) (fun _ _ _ h => h) (by rfl) ?hy37 (by assumption) ?_
      case hy37 => ((intro w hSw; (try dsimp only at hSw); (try go_split_ands); go_simp); try with_reducible rfl)
      simp only [Act.put, List.setIfInBounds_toArray, List.set_cons_zero, List.set_cons_succ]
      refine takeH (i := 17) (d := (some 138)) (v := ?v38) rfl rfl (by kernel_rfl) (by kernel_rfl) (by kernel_rfl) (fun _ _ _ h => h) (by rfl) ?hy38 (by assumption) ?_
      case hy38 => ((intro w hSw; (try dsimp only at hSw); (try go_split_ands); go_simp); try with_reducible rfl)
      simp only [Act.put, List.setIfInBounds_toArray, List.set_cons_zero, List.set_cons_succ]
      refine takeH (i := 18) (d := (some 139)) (v := ?v39) rfl rfl (by kernel_rfl) (by kernel_rfl) (by kernel_rfl) (fun _ _ _ h => h) (by rfl) ?hy39 (by assumption) ?_
      case hy39 => ((intro w hSw; (try dsimp only at hSw); (try go_split_ands); go_simp); try with_reducible rfl)
      simp only [Act.put, List.setIfInBounds_toArray, List.set_cons_zero, List.set_cons_succ]
      refine takeH (i := 19) (d := (some 140)) (v := ?v40) rfl rfl (by kernel_rfl) (by kernel_rfl) (by kernel_rfl) (fun _ _ _ h => h) (by rfl) ?hy40 (by assumption) ?_
      case hy40 => ((intro w hSw; (try dsimp only at hSw); (try go_split_ands); go_simp); try with_reducible rfl)
      simp only [Act.put, List.setIfInBounds_toArray, List.set_cons_zero, List.set_cons_succ]
      refine takeH (i := 20) (d := (some 141)) (v := ?v41) rfl rfl (by kernel_rfl) (by kernel_rfl) (by kernel_rfl) (fun _ _ _ h => h) (by rfl) ?hy41 (by assumption) ?_
      case hy41 => ((intro w hSw; (try dsimp only at hSw); (try go_split_ands); go_simp); try with_reducible rfl)
      simp only [Act.put, List.setIfInBounds_toArray, List.set_cons_zero, List.set_cons_succ]
      refine takeH (i := 21) (d := (some 142)) (v := ?v42) rfl rfl (by kernel_rfl) (by kernel_rfl) (by kernel_rfl) (fun _ _ _ h => h) (by rfl) ?hy42 (by assumption) ?_
      case hy42 => ((intro w hSw; (try dsimp only at hSw); (try go_split_ands); go_simp); try with_reducible rfl)
      simp only [Act.put, List.setIfInBounds_toArray, List.set_cons_zero, List.set_cons_succ]
      refine wpAnyH_ready (rs := [22]) (by kernel_rfl) (by simp) ?_
      refine AllReadyH.cons rfl (fun K hK => ?_) AllReadyH.nil
      go_simp
      refine (l_works_any _).mono ?_
      rintro e w9 ⟨rfl, u9⟩
      go_wp2_with fail
      refine hK.out _ _ ⟨hHeld.1.trans u9, u9.blk hHeld.2.1, u9.blk hHeld.2.2.1, hHeld.2.2.2.up u9⟩ (fun hHeld => ?_)
      clear hK K u9
      refine takeH (i := 23) (d := (some 144)) (v := ?v44) rfl rfl (by kernel_rfl) (by kernel_rfl) (by kernel_rfl) (fun _ _ _ h => h) (by rfl) ?hy44 (by assumption) ?_
      case hy44 => ((intro w hSw; (try dsimp only at hSw); (try go_split_ands); go_simp); try with_reducible rfl)
      simp only [Act.put, List.setIfInBounds_toArray, List.set_cons_zero, List.set_cons_succ]
      refine takeH (i := 24) (d := (some 6)) (v := ?v45) rfl rfl (by kernel_rfl) (by kernel_rfl) (by kernel_rfl) (fun _ _ _ h => h) (by rfl) ?hy45 (by assumption) ?_
      case hy45 => ((intro w hSw; (try dsimp only at hSw); (try go_split_ands); go_simp); try with_reducible rfl)
      simp only [Act.put, List.setIfInBounds_toArray, List.set_cons_zero, List.set_cons_succ]
      refine wpAnyH_done (by kernel_rfl) ?_ _
      go_wp2
      go_ret
      exact ⟨rfl, hHeld.1⟩

theorem dialOnce_any {h m s d : Int} {a : Option Addr} {n c : Nat} {L : List (Int × Bool)} {ah : Int} {a' : Option Addr} {n' c' : Nat} {M : List (Int × Int)} {w : World} (A : CalArg w a n c L) (B : TownArg w a' n' c' M) (p0 p1 p2 p3 n0 : Int) :
    Calls Try.prog 13 #[.agg #[.int .i64 h, .int .i64 m, .int .i64 s, .int .i64 d, .slice a n c, .int .i64 ah, .slice a' n' c'], rd p0 p1 p2 p3, .int .i64 n0] w fun e w' => e = .returned (.bool true) ∧ Up w w' := by
  cases hf : D.fits h m s d L ah M
  · exact dialOnce_no A B p0 p1 p2 p3 n0 hf
  · simp only [D.fits, Bool.and_eq_true] at hf
    obtain ⟨hv, ht⟩ := hf
    obtain ⟨h1, h2, m1, m2, s1, s2, d1, d2⟩ := D.valid_bd hv
    obtain ⟨N, rfl⟩ : ∃ N : Nat, d = N := ⟨d.toNat, by omega⟩
    rw [Int.toNat_natCast] at ht
    exact dialOnce_yes A B p0 p1 p2 p3 n0 hv ht

end Go.Proofs.Ytfmnfingliflkaa
