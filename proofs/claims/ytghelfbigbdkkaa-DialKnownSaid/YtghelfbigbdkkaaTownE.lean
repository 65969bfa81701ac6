import Derived.Test.YtghelfbigbdkkaaTownD
import Derived.Test.YtghelfbigbdkkaaNextA
/- The contracts of dial's Local. -/
namespace Go.Proofs.Ytghelfbigbdkkaa
open Go.RowKit

set_option maxRecDepth 100000 in
set_option maxHeartbeats 2000000 in
theorem Local_no {h m s d : Int} {a : Option Addr} {n c : Nat} {L : List (Int × Bool)} {ah : Int} {a' : Option Addr} {n' c' : Nat} {M : List (Int × Int)} {w : World} (A : CalArg w a n c L) (B : TownArg w a' n' c' M) (t : Int) (he : ¬ D.townE h m s d L ah M = 0) :
    Calls Try.prog 12 #[.agg #[.int .i64 h, .int .i64 m, .int .i64 s, .int .i64 d, .slice a n c], .agg #[.int .i64 ah, .slice a' n' c'], .int .i64 t] w fun e w' => e = .returned (.tuple #[rd 0 0 0 0, .int .i64 (D.townE h m s d L ah M)]) ∧ Up w w' := by
  obtain ⟨ts, ho, K⟩ := newTown_e (ah := ah) (d := d) (h := h) (m := m) (s := s) (c := c) (c' := c') (A.up (((Up.refl w).alloc (.cells #[.int .i64 h, .int .i64 m, .int .i64 s, .int .i64 d, .slice a n c] 24)).alloc (.cells #[.int .i64 ah, .slice a' n' c'] 44) |>.alloc (.cells #[.int .i64 0, .int .i64 0, .int .i64 0, .int .i64 0] 34))) (B.up (((Up.refl w).alloc (.cells #[.int .i64 h, .int .i64 m, .int .i64 s, .int .i64 d, .slice a n c] 24)).alloc (.cells #[.int .i64 ah, .slice a' n' c'] 44) |>.alloc (.cells #[.int .i64 0, .int .i64 0, .int .i64 0, .int .i64 0] 34)))
  have HK := Lib.hid K
  generalize D.townE h m s d L ah M = E at *
  have hE : (E != 0) = true := by simp [he]
  clear K he
  go_enter Try.func12, Try.ntmps12
  go_wp2_with fail
  refine HK.out.mono ?_
  rintro e w1 ⟨rfl, u1⟩
  have y2 := u1.blk (b := w.heap.size + 1 + 1) (o := (.cells #[.int .i64 0, .int .i64 0, .int .i64 0, .int .i64 0] 34)) (by rw [blk_new _ _ _ (by simp)])
  have U1 := ((((Up.refl w).alloc _).alloc _).alloc _).trans u1
  have f2 := frozB y2
  have l2 := blk_lt y2
  clear u1
  go_wp2
  have y3 := blk_keep (.cells ts 74) (set4_same y2 (.int .i64 0) (.int .i64 0) (.int .i64 0) (.int .i64 0))
  have f3 := cellB y3
  refine bodyPost_ret (v := .tuple #[rd 0 0 0 0, .int .i64 E]) (by simp [results, Try.results12, go_sem, f3]) rfl ⟨rfl, (U1.set4 (by omega) _ _ _ _).alloc _⟩

set_option maxRecDepth 100000 in
set_option maxHeartbeats 2000000 in
theorem Local_ask {h m s d : Int} {a : Option Addr} {n c : Nat} {L : List (Int × Bool)} {ah : Int} {a' : Option Addr} {n' c' : Nat} {M : List (Int × Int)} {w : World} (A : CalArg w a n c L) (B : TownArg w a' n' c' M) (t : Int) (hv : D.valid h m s d L = true) (ht : D.townOk (D.beg h m s (D.deeds L L.length) d.toNat) ah M = true) (hk : inB t 0 (D.beg h m s (D.deeds L L.length) d.toNat - 1) = false) :
    Calls Try.prog 12 #[.agg #[.int .i64 h, .int .i64 m, .int .i64 s, .int .i64 d, .slice a n c], .agg #[.int .i64 ah, .slice a' n' c'], .int .i64 t] w fun e w' => e = .returned (.tuple #[rd 0 0 0 0, .int .i64 11]) ∧ Up w w' := by
  obtain ⟨cs, N, rfl, V, K⟩ := newTown_ok (A.up (((Up.refl w).alloc (.cells #[.int .i64 h, .int .i64 m, .int .i64 s, .int .i64 d, .slice a n c] 24)).alloc (.cells #[.int .i64 ah, .slice a' n' c'] 44) |>.alloc (.cells #[.int .i64 0, .int .i64 0, .int .i64 0, .int .i64 0] 34))) (B.up (((Up.refl w).alloc (.cells #[.int .i64 h, .int .i64 m, .int .i64 s, .int .i64 d, .slice a n c] 24)).alloc (.cells #[.int .i64 ah, .slice a' n' c'] 44) |>.alloc (.cells #[.int .i64 0, .int .i64 0, .int .i64 0, .int .i64 0] 34))) hv ht
  have HK := Lib.hid K
  have T := Town.is cs V.cal.size ah a' n' c'
  have ho := twn_ok V ah a' n' c'
  have KD := fun w => hasReading_any V.cal t w V.h1 V.h2 V.m1 V.m2 V.s1 V.s2 V.d2
  rw [Int.toNat_natCast] at hk
  rw [hk] at KD
  have HD := Lib.hid KD
  generalize twn cs ah a' n' c' = ts at *
  have hz := Lib.hid T.sz
  have hT := T.cal
  clear K hv ht KD hk T
  go_enter Try.func12, Try.ntmps12
  go_wp2_with fail
  refine HK.out.mono ?_
  rintro e w1 ⟨rfl, u1⟩
  have y2 := u1.blk (b := w.heap.size + 1 + 1) (o := (.cells #[.int .i64 0, .int .i64 0, .int .i64 0, .int .i64 0] 34)) (by rw [blk_new _ _ _ (by simp)])
  have U1 := ((((Up.refl w).alloc _).alloc _).alloc _).trans u1
  clear u1
  go_wp2_with fail
  refine (HD.out _).mono ?_
  rintro e w2 ⟨rfl, u2⟩
  have y3 := u2.blk (blk_keep _ y2)
  have f3 := frozB y3
  have l3 := blk_lt y3
  have l2 := blk_lt y2
  have U2 := (U1.alloc _).trans u2
  clear y2 u2 U1
  go_wp2
  have y4 := set4_same y3 (.int .i64 0) (.int .i64 0) (.int .i64 0) (.int .i64 0)
  have f4 := cellB y4
  refine bodyPost_ret (v := .tuple #[rd 0 0 0 0, .int .i64 11]) (by simp [results, Try.results12, go_sem, f4]) rfl ⟨rfl, U2.set4 (by omega) _ _ _ _⟩

/-- the minute, counted through, of the local reading of a tick -/
def D.ltick (h m s : Int) (x : Nat → Int) (n : Nat) (ah : Int) (M : List (Int × Int)) (t : Int) : Int := D.lmin h m (D.rA h m s x n t) (D.rB h m s x n t) (D.rC h m s x n t) (D.ahAt ah M t M.length)

set_option maxRecDepth 100000 in
set_option maxHeartbeats 4000000 in
theorem Local_yes {h m s d : Int} {a : Option Addr} {n c : Nat} {L : List (Int × Bool)} {ah : Int} {a' : Option Addr} {n' c' : Nat} {M : List (Int × Int)} {w : World} (A : CalArg w a n c L) (B : TownArg w a' n' c' M) (t : Int) (hv : D.valid h m s d L = true) (ht : D.townOk (D.beg h m s (D.deeds L L.length) d.toNat) ah M = true) (hk : inB t 0 (D.beg h m s (D.deeds L L.length) d.toNat - 1) = true) :
    Calls Try.prog 12 #[.agg #[.int .i64 h, .int .i64 m, .int .i64 s, .int .i64 d, .slice a n c], .agg #[.int .i64 ah, .slice a' n' c'], .int .i64 t] w fun e w' => e = .returned (.tuple #[rd (D.ltick h m s (D.deeds L L.length) d.toNat ah M t / (h * m)) (D.ltick h m s (D.deeds L L.length) d.toNat ah M t % (h * m) / m) (D.ltick h m s (D.deeds L L.length) d.toNat ah M t % (h * m) % m) (D.rS h m s (D.deeds L L.length) d.toNat t), .int .i64 0]) ∧ Up w w' := by
  obtain ⟨cs, N, rfl, V, K⟩ := newTown_ok (A.up (((Up.refl w).alloc (.cells #[.int .i64 h, .int .i64 m, .int .i64 s, .int .i64 d, .slice a n c] 24)).alloc (.cells #[.int .i64 ah, .slice a' n' c'] 44) |>.alloc (.cells #[.int .i64 0, .int .i64 0, .int .i64 0, .int .i64 0] 34))) (B.up (((Up.refl w).alloc (.cells #[.int .i64 h, .int .i64 m, .int .i64 s, .int .i64 d, .slice a n c] 24)).alloc (.cells #[.int .i64 ah, .slice a' n' c'] 44) |>.alloc (.cells #[.int .i64 0, .int .i64 0, .int .i64 0, .int .i64 0] 34))) hv ht
  have HK := Lib.hid K
  have T := Town.is cs V.cal.size ah a' n' c'
  have ho := twn_ok V ah a' n' c'
  have n6 : n' ≤ 6 := by
    have hl := B.len
    simp only [D.townOk, Bool.and_eq_true, decide_eq_true_eq] at ht
    omega
  have KD := fun w => hasReading_any V.cal t w V.h1 V.h2 V.m1 V.m2 V.s1 V.s2 V.d2
  rw [Int.toNat_natCast] at hk ⊢
  rw [hk] at KD
  have HD := Lib.hid KD
  have t0 := (inB_iff.1 hk).1
  have t1 := (inB_iff.1 hk).2
  have HR := Lib.hid (fun w => reading_rd V t w t0 (by omega))
  have HA := Lib.hid (fun w' (u : Up w w') => aheadAt_any T (B.up u) n6 t)
  have HL := Lib.hid (fun w => local_any V.cal T (D.rA h m s (D.deeds L L.length) N t) (D.rB h m s (D.deeds L L.length) N t) (D.rC h m s (D.deeds L L.length) N t) (D.rS h m s (D.deeds L L.length) N t) (D.ahAt ah M t n') w V.h1 V.h2 V.m1 V.m2)
  have hM : n' = M.length := B.len
  have HG := Lib.hid (show D.ltick h m s (D.deeds L L.length) N ah M t = D.lmin h m (D.rA h m s (D.deeds L L.length) N t) (D.rB h m s (D.deeds L L.length) N t) (D.rC h m s (D.deeds L L.length) N t) (D.ahAt ah M t n') by rw [hM]; rfl)
  rw [← HG.out] at HL
  generalize twn cs ah a' n' c' = ts at *
  generalize D.rA h m s (D.deeds L L.length) N t = R1 at *
  generalize D.rB h m s (D.deeds L L.length) N t = R2 at *
  generalize D.rC h m s (D.deeds L L.length) N t = R3 at *
  generalize D.rS h m s (D.deeds L L.length) N t = R4 at *
  generalize D.ahAt ah M t n' = R5 at *
  generalize D.ltick h m s (D.deeds L L.length) N ah M t / (h * m) = Q1 at *
  generalize D.ltick h m s (D.deeds L L.length) N ah M t % (h * m) / m = Q2 at *
  generalize D.ltick h m s (D.deeds L L.length) N ah M t % (h * m) % m = Q3 at *
  have hz := Lib.hid T.sz
  have hT := T.cal
  clear K hv ht KD hk T t0 t1 HG hM
  go_enter Try.func12, Try.ntmps12
  go_wp2_with fail
  refine HK.out.mono ?_
  rintro e w1 ⟨rfl, u1⟩
  have y2 := u1.blk (b := w.heap.size + 1 + 1) (o := (.cells #[.int .i64 0, .int .i64 0, .int .i64 0, .int .i64 0] 34)) (by rw [blk_new _ _ _ (by simp)])
  have U1 := ((((Up.refl w).alloc _).alloc _).alloc _).trans u1
  clear u1
  go_wp2_with fail
  refine (HD.out _).mono ?_
  rintro e w2 ⟨rfl, u2⟩
  have y3 := u2.blk (blk_keep _ y2)
  have k3 := u2.blk (blk_new _ _ _ rfl)
  have U2 := (U1.alloc _).trans u2
  have l2 := blk_lt y2
  clear y2 u2 U1
  go_wp2_with fail
  refine wp_region_held_drew (S := fun w' => mblk w' w1.heap.size = some (.cells ts 74 (0, 0)) ∧ Up w w' ∧ ∃ z0 z1 z2 z3 : Value, mblk w' (w.heap.size + 1 + 1) = some (.cells #[z0, z1, z2, z3] 34 (0, 0))) (by kernel_rfl) ⟨by rw [blk_drew]; exact k3, U2.drew, _, _, _, _, by rw [blk_drew]; exact y3⟩ (fun hHeld => ?_)
  clear y3 k3 U2
  have hne : w.heap.size + 1 + 1 < w1.heap.size := l2
  refine takeH (i := 0) (d := (some 26)) (v := ?v1) rfl rfl (by kernel_rfl) (by kernel_rfl) (by kernel_rfl) (fun _ _ _ h => h) (by rfl) ?hy1 (by assumption) ?_
  case hy1 => ((intro w hSw; (try dsimp only at hSw); (try go_split_ands); go_simp); try with_reducible rfl)
  simp only [Act.put, List.setIfInBounds_toArray, List.set_cons_zero, List.set_cons_succ]
  refine takeH (i := 1) (d := (some 27)) (v := ?v2) rfl rfl (by kernel_rfl) (by kernel_rfl) (by kernel_rfl) (fun _ _ _ h => h) (by rfl) ?hy2 (by assumption) ?_
  case hy2 => ((intro w hSw; (try dsimp only at hSw); (try go_split_ands); go_simp); try with_reducible rfl)
  simp only [Act.put, List.setIfInBounds_toArray, List.set_cons_zero, List.set_cons_succ]
  refine takeH (i := 3) (d := (some 29)) (v := ?v3) rfl rfl (by kernel_rfl) (by kernel_rfl) (by kernel_rfl) (fun _ _ _ h => h) (by rfl) ?hy3 (by assumption) ?_
  case hy3 => ((intro w hSw; (try dsimp only at hSw); (try go_split_ands); go_simp); try with_reducible rfl)
  simp only [Act.put, List.setIfInBounds_toArray, List.set_cons_zero, List.set_cons_succ]
  refine takeH (i := 5) (d := (some 31)) (v := ?v4) rfl rfl (by kernel_rfl) (by kernel_rfl) (by kernel_rfl) (fun _ _ _ h => h) (by rfl) ?hy4 (by assumption) ?_
  case hy4 => ((intro w hSw; (try dsimp only at hSw); (try go_split_ands); go_simp); try with_reducible rfl)
  simp only [Act.put, List.setIfInBounds_toArray, List.set_cons_zero, List.set_cons_succ]
  refine takeH (i := 6) (d := (some 32)) (v := ?v5) rfl rfl (by kernel_rfl) (by kernel_rfl) (by kernel_rfl) (fun _ _ _ h => h) (by rfl) ?hy5 (by assumption) ?_
  case hy5 => ((intro w hSw; (try dsimp only at hSw); (try go_split_ands); go_simp); try with_reducible rfl)
  simp only [Act.put, List.setIfInBounds_toArray, List.set_cons_zero, List.set_cons_succ]
  refine takeH (i := 2) (d := (some 28)) (v := ?v6) rfl rfl (by kernel_rfl) (by kernel_rfl) (by kernel_rfl) (fun _ _ _ h => h) (by rfl) ?hy6 (by assumption) ?_
  case hy6 => ((intro w hSw; (try dsimp only at hSw); (try go_split_ands); go_simp); try with_reducible rfl)
  simp only [Act.put, List.setIfInBounds_toArray, List.set_cons_zero, List.set_cons_succ]
  refine wpAnyH_ready (rs := [4]) (by kernel_rfl) (by simp) ?_
  refine AllReadyH.cons rfl (fun K hK => ?_) AllReadyH.nil
  go_simp
  refine (HR.out _).mono ?_
  rintro e w3 ⟨rfl, u3⟩
  go_wp2_with fail
  refine hK.out _ _ (by obtain ⟨i1, i3, z0, z1, z2, z3, i4⟩ := hHeld; exact ⟨u3.blk i1, i3.trans u3, z0, z1, z2, z3, u3.blk i4⟩) (fun hHeld => ?_)
  clear hK K
  refine wpAnyH_ready (rs := [7]) (by kernel_rfl) (by simp) ?_
  refine AllReadyH.cons rfl (fun K hK => ?_) AllReadyH.nil
  go_simp
  refine (HA.out _ hHeld.2.1).mono ?_
  rintro e w4 ⟨rfl, u4⟩
  go_wp2_with fail
  refine hK.out _ _ (by obtain ⟨i1, i3, z0, z1, z2, z3, i4⟩ := hHeld; exact ⟨u4.blk i1, i3.trans u4, z0, z1, z2, z3, u4.blk i4⟩) (fun hHeld => ?_)
  clear hK K
  refine wpAnyH_ready (rs := [8]) (by kernel_rfl) (by simp) ?_
  refine AllReadyH.cons rfl (fun K hK => ?_) AllReadyH.nil
  go_simp
  refine (HL.out _).mono ?_
  rintro e w5 ⟨rfl, u5⟩
  go_wp2_with fail
  refine hK.out _ _ (by obtain ⟨i1, i3, z0, z1, z2, z3, i4⟩ := hHeld; exact ⟨u5.blk i1, i3.trans u5, z0, z1, z2, z3, u5.blk i4⟩) (fun hHeld => ?_)
  clear hK K
  have hh := hHeld
  obtain ⟨i1, i3, z0, z1, z2, z3, i4⟩ := hh
  have fz := frozB i4
  refine wpAnyH_ready (rs := [9]) (by kernel_rfl) (by simp) ?_
  refine AllReadyH.cons rfl (fun K hK => ?_) AllReadyH.nil
  go_simp
  refine hK.out _ _ ⟨by rw [set4_other _ (by omega)]; exact i1, i3.set4 (by omega) _ _ _ _, _, _, _, _, set4_same i4 _ _ _ _⟩ (fun hHeld => ?_)
  clear hK K fz
  refine takeH (i := 10) (d := (some 7)) (v := ?v10) rfl rfl (by kernel_rfl) (by kernel_rfl) (by kernel_rfl) (fun _ _ _ h => h) (by rfl) ?hy10 (by assumption) ?_
  case hy10 => ((intro w hSw; (try dsimp only at hSw); (try go_split_ands); go_simp); try with_reducible rfl)
  simp only [Act.put, List.setIfInBounds_toArray, List.set_cons_zero, List.set_cons_succ]
  refine wpAnyH_done (by kernel_rfl) ?_ _
  have y4 := set4_same i4 (.int .i64 Q1) (.int .i64 Q2) (.int .i64 Q3) (.int .i64 R4)
  have f4 := cellB y4
  go_wp2
  refine bodyPost_ret (v := .tuple #[rd Q1 Q2 Q3 R4, .int .i64 0]) (by simp [results, Try.results12, go_sem, f4]) rfl ⟨rfl, hHeld.2.1⟩

end Go.Proofs.Ytghelfbigbdkkaa
