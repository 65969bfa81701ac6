import Derived.Test.YtfmnfingliflkaaRefH
/- The contract of the reference's Local. -/
namespace Go.Proofs.Ytfmnfingliflkaa
open Go.RowKit
attribute [local go_sem] cell_CAL cell_TWN
section
variable {h m s d : Int} {a : Option Addr} {n c : Nat} {L : List (Int × Bool)} {ah : Int} {a' : Option Addr} {n' c' : Nat} {M : List (Int × Int)} {w : World}
set_option maxRecDepth 100000 in
set_option maxHeartbeats 1000000 in
theorem r_Local_no (A : CalArg w a n c L) (hn : n ≤ 17592186044000) (B : TownArg w a' n' c' M) (t : Int) (he : ¬ D.townE h m s d L ah M = 0) :
    Calls Try.prog 32 #[.agg #[.int .i64 h, .int .i64 m, .int .i64 s, .int .i64 d, .slice a n c], .agg #[.int .i64 ah, .slice a' n' c'], .int .i64 t] w fun e w' => e = .returned (.tuple #[rd 0 0 0 0, .int .i64 (D.townE h m s d L ah M)]) ∧ Up w w' := by
  have U0 := (((Up.refl w).alloc (.cells #[.int .i64 h, .int .i64 m, .int .i64 s, .int .i64 d, .slice a n c] 24)).alloc (.cells #[.int .i64 ah, .slice a' n' c'] 44)).alloc (.cells #[.int .i64 0, .int .i64 0, .int .i64 0, .int .i64 0] 27)
  have K := Lib.hid (r_CheckTown_any (h := h) (m := m) (s := s) (d := d) (c := c) (c' := c') (ah := ah) (A.up U0) hn (B.up U0))
  have z0 : mblk (((w.alloc (.cells #[.int .i64 h, .int .i64 m, .int .i64 s, .int .i64 d, .slice a n c] 24)).alloc (.cells #[.int .i64 ah, .slice a' n' c'] 44)).alloc (.cells #[.int .i64 0, .int .i64 0, .int .i64 0, .int .i64 0] 27)) (w.heap.size + 1 + 1) = some (.cells #[.int .i64 0, .int .i64 0, .int .i64 0, .int .i64 0] 27 (0, 0)) := blk_new _ _ _ (by simp)
  generalize D.townE h m s d L ah M = E at *
  have hE : (E != 0) = true := by simp [he]
  clear A B he
  go_enter Try.func32, Try.ntmps32
  go_wp2_with fail
  refine K.out.mono ?_
  rintro e w1 ⟨rfl, u1⟩
  have y2 := u1.blk z0
  have l2 := blk_lt y2
  have f2 := frozB y2
  have g2 := cellB y2
  go_wp2
  have y3 := set4_same y2 (.int .i64 0) (.int .i64 0) (.int .i64 0) (.int .i64 0)
  have f3 := cellB y3
  refine bodyPost_ret (v := .tuple #[rd 0 0 0 0, .int .i64 E]) (by simp [results, Try.results32, go_sem, f3]) rfl ⟨rfl, (U0.trans u1).set4 (by omega) _ _ _ _⟩

set_option maxRecDepth 100000 in
set_option maxHeartbeats 1000000 in
theorem r_Local_ask (A : CalArg w a n c L) (hn : n ≤ 17592186044000) (B : TownArg w a' n' c' M) (t : Int) (hv : D.valid h m s d L = true) (ht : D.townOk (D.beg h m s (D.deeds L L.length) d.toNat) ah M = true) (hk : inB t 0 (D.beg h m s (D.deeds L L.length) d.toNat - 1) = false) :
    Calls Try.prog 32 #[.agg #[.int .i64 h, .int .i64 m, .int .i64 s, .int .i64 d, .slice a n c], .agg #[.int .i64 ah, .slice a' n' c'], .int .i64 t] w fun e w' => e = .returned (.tuple #[rd 0 0 0 0, .int .i64 11]) ∧ Up w w' := by
  obtain ⟨h1, h2, m1, m2, s1, s2, d1, d2⟩ := D.valid_bd hv
  obtain ⟨N, rfl⟩ : ∃ N : Nat, d = N := ⟨d.toNat, by omega⟩
  have U0 := (((Up.refl w).alloc (.cells #[.int .i64 h, .int .i64 m, .int .i64 s, .int .i64 N, .slice a n c] 24)).alloc (.cells #[.int .i64 ah, .slice a' n' c'] 44)).alloc (.cells #[.int .i64 0, .int .i64 0, .int .i64 0, .int .i64 0] 27)
  have K := Lib.hid (r_CheckTown_any (h := h) (m := m) (s := s) (d := N) (c := c) (c' := c') (ah := ah) (A.up U0) hn (B.up U0))
  have e0 : D.townE h m s N L ah M = 0 := by simp only [D.townE, hv, ht, if_true]
  rw [e0] at K
  have HT := Lib.hid (fun w' (u : Up w w') => r_isTick_any (c := c) (A.up u) hv t)
  rw [Int.toNat_natCast] at hk
  rw [hk] at HT
  have z0 : mblk (((w.alloc (.cells #[.int .i64 h, .int .i64 m, .int .i64 s, .int .i64 N, .slice a n c] 24)).alloc (.cells #[.int .i64 ah, .slice a' n' c'] 44)).alloc (.cells #[.int .i64 0, .int .i64 0, .int .i64 0, .int .i64 0] 27)) (w.heap.size + 1 + 1) = some (.cells #[.int .i64 0, .int .i64 0, .int .i64 0, .int .i64 0] 27 (0, 0)) := blk_new _ _ _ (by simp)
  have c0 : mblk (((w.alloc (.cells #[.int .i64 h, .int .i64 m, .int .i64 s, .int .i64 N, .slice a n c] 24)).alloc (.cells #[.int .i64 ah, .slice a' n' c'] 44)).alloc (.cells #[.int .i64 0, .int .i64 0, .int .i64 0, .int .i64 0] 27)) w.heap.size = some (.cells #[.int .i64 h, .int .i64 m, .int .i64 s, .int .i64 N, .slice a n c] 24 (0, 0)) := blk_keep _ (blk_keep _ (blk_new _ _ _ rfl))
  clear A B hv ht hk e0
  go_enter Try.func32, Try.ntmps32
  go_wp2_with fail
  refine K.out.mono ?_
  rintro e w1 ⟨rfl, u1⟩
  have f1 := cellB (u1.blk c0)
  have U1 := U0.trans u1
  go_wp2_with fail
  refine (HT.out _ U1).mono ?_
  rintro e w2 ⟨rfl, u2⟩
  have y2 := u2.blk (u1.blk z0)
  have l2 := blk_lt y2
  have f2 := frozB y2
  have g2 := cellB y2
  go_wp2
  have y3 := set4_same y2 (.int .i64 0) (.int .i64 0) (.int .i64 0) (.int .i64 0)
  have f3 := cellB y3
  refine bodyPost_ret (v := .tuple #[rd 0 0 0 0, .int .i64 11]) (by simp [results, Try.results32, go_sem, f3]) rfl ⟨rfl, (U1.trans u2).set4 (by omega) _ _ _ _⟩

set_option maxRecDepth 100000 in
set_option maxHeartbeats 2000000 in
theorem r_Local_yes (A : CalArg w a n c L) (hn : n ≤ 17592186044000) (B : TownArg w a' n' c' M) (t : Int) (hv : D.valid h m s d L = true) (ht : D.townOk (D.beg h m s (D.deeds L L.length) d.toNat) ah M = true) (hk : inB t 0 (D.beg h m s (D.deeds L L.length) d.toNat - 1) = true) :
    Calls Try.prog 32 #[.agg #[.int .i64 h, .int .i64 m, .int .i64 s, .int .i64 d, .slice a n c], .agg #[.int .i64 ah, .slice a' n' c'], .int .i64 t] w fun e w' => e = .returned (.tuple #[rd (D.ltick h m s (D.deeds L L.length) d.toNat ah M t / (h * m)) (D.ltick h m s (D.deeds L L.length) d.toNat ah M t % (h * m) / m) (D.ltick h m s (D.deeds L L.length) d.toNat ah M t % (h * m) % m) (D.rS h m s (D.deeds L L.length) d.toNat t), .int .i64 0]) ∧ Up w w' := by
  obtain ⟨h1, h2, m1, m2, s1, s2, d1, d2⟩ := D.valid_bd hv
  obtain ⟨N, rfl⟩ : ∃ N : Nat, d = N := ⟨d.toNat, by omega⟩
  have U0 := (((Up.refl w).alloc (.cells #[.int .i64 h, .int .i64 m, .int .i64 s, .int .i64 N, .slice a n c] 24)).alloc (.cells #[.int .i64 ah, .slice a' n' c'] 44)).alloc (.cells #[.int .i64 0, .int .i64 0, .int .i64 0, .int .i64 0] 27)
  have K := Lib.hid (r_CheckTown_any (h := h) (m := m) (s := s) (d := N) (c := c) (c' := c') (ah := ah) (A.up U0) hn (B.up U0))
  have e0 : D.townE h m s N L ah M = 0 := by simp only [D.townE, hv, ht, if_true]
  rw [e0] at K
  have HT := Lib.hid (fun w' (u : Up w w') => r_isTick_any (c := c) (A.up u) hv t)
  rw [Int.toNat_natCast] at hk ht ⊢
  rw [hk] at HT
  have hk2 := inB_iff.1 hk
  have tT : t < D.beg h m s (D.deeds L L.length) N := by omega
  obtain ⟨u, k, e1, e2, e3, u0, u1, k0, k1, e4, e5, e6⟩ := D.local_is h1 h2 m1 m2 s1 (by omega) ht hk2.1 tT
  have hl := B.len
  have ml := (D.town_bd ht).2.2.1
  have HR := Lib.hid (fun w' (u : Up w w') => r_reading_any (c := c) (A.up u) hv t hk2.1 tT)
  have HA := Lib.hid (fun w' (u : Up w w') => r_ahead_any (c' := c') (ah := ah) (B.up u) (by omega) t)
  have hk' : D.ahAt ah M t n' = k := by rw [hl]; exact e2
  rw [hk'] at HA
  rw [e4, e5, e6] at HR
  rw [e3]
  obtain ⟨b1, b2, b3, b4⟩ := D.parts_bd u h1 h2 m1 m2
  have f := Int.emod_add_mul_ediv u (h * m)
  obtain ⟨P1, P2⟩ := D.mul_bd h m h1 h2 m1 m2
  have A1 : 0 ≤ u / (h * m) := Int.ediv_nonneg u0 (by omega)
  have A2 : u / (h * m) ≤ u := Int.ediv_le_self _ u0
  have f3 := Int.emod_add_mul_ediv (u % (h * m)) m
  have eu : u / (h * m) * (h * m) + (u % (h * m) / m * m + u % (h * m) % m) = u := by rw [Int.mul_comm (u / (h * m)), Int.mul_comm (u % (h * m) / m)]; omega
  have HM := Lib.hid (fun q w => r_moved_any (s := s) (d := N) (a := a) (n := n) (c := c) (w := w) h1 h2 m1 m2 (u / (h * m)) (u % (h * m) / m) (u % (h * m) % m) q k (by omega) (by omega) b1 b2 b3 b4 k0 k1)
  rw [eu] at HM
  generalize (u + k) / (h * m) = LA at *
  generalize (u + k) % (h * m) / m = LB at *
  generalize (u + k) % (h * m) % m = LC at *
  generalize u / (h * m) = RA at *
  generalize u % (h * m) / m = RB at *
  generalize u % (h * m) % m = RC at *
  generalize D.rS h m s (D.deeds L L.length) N t = RS at *
  have z0 : mblk (((w.alloc (.cells #[.int .i64 h, .int .i64 m, .int .i64 s, .int .i64 N, .slice a n c] 24)).alloc (.cells #[.int .i64 ah, .slice a' n' c'] 44)).alloc (.cells #[.int .i64 0, .int .i64 0, .int .i64 0, .int .i64 0] 27)) (w.heap.size + 1 + 1) = some (.cells #[.int .i64 0, .int .i64 0, .int .i64 0, .int .i64 0] 27 (0, 0)) := blk_new _ _ _ (by simp)
  have c0 : mblk (((w.alloc (.cells #[.int .i64 h, .int .i64 m, .int .i64 s, .int .i64 N, .slice a n c] 24)).alloc (.cells #[.int .i64 ah, .slice a' n' c'] 44)).alloc (.cells #[.int .i64 0, .int .i64 0, .int .i64 0, .int .i64 0] 27)) w.heap.size = some (.cells #[.int .i64 h, .int .i64 m, .int .i64 s, .int .i64 N, .slice a n c] 24 (0, 0)) := blk_keep _ (blk_keep _ (blk_new _ _ _ rfl))
  have t0 : mblk (((w.alloc (.cells #[.int .i64 h, .int .i64 m, .int .i64 s, .int .i64 N, .slice a n c] 24)).alloc (.cells #[.int .i64 ah, .slice a' n' c'] 44)).alloc (.cells #[.int .i64 0, .int .i64 0, .int .i64 0, .int .i64 0] 27)) (w.heap.size + 1) = some (.cells #[.int .i64 ah, .slice a' n' c'] 44 (0, 0)) := blk_keep _ (blk_new _ _ _ (by simp))
  clear A B hv ht hk e0 e1 e2 e3 e4 e5 e6 hk' hl ml eu f f3 A1 A2 hk2 tT
  go_enter Try.func32, Try.ntmps32
  go_wp2_with fail
  refine K.out.mono ?_
  rintro e w1 ⟨rfl, v1⟩
  have c1 := v1.blk c0
  have t1 := v1.blk t0
  have z1 := v1.blk z0
  have f1 := cellB c1
  have U1 := U0.trans v1
  clear v1 U0 c0 t0 z0 K
  go_wp2_with fail
  refine (HT.out _ U1).mono ?_
  rintro e w2 ⟨rfl, v2⟩
  have U2 := U1.trans v2
  have c2 := v2.blk c1
  have t2 := v2.blk t1
  have z2 := v2.blk z1
  clear v2 U1 c1 t1 z1 f1 HT
  go_wp2_with fail
  refine wp_region_held_drew (S := fun w' => Up w w' ∧ mblk w' w.heap.size = some (.cells #[.int .i64 h, .int .i64 m, .int .i64 s, .int .i64 N, .slice a n c] 24 (0, 0)) ∧ mblk w' (w.heap.size + 1) = some (.cells #[.int .i64 ah, .slice a' n' c'] 44 (0, 0))) (by kernel_rfl) ⟨U2.drew, by rw [blk_drew]; exact c2, by rw [blk_drew]; exact t2⟩ (fun hHeld => ?_)
  have z3 : mblk w2.drew (w.heap.size + 1 + 1) = some (.cells #[.int .i64 0, .int .i64 0, .int .i64 0, .int .i64 0] 27 (0, 0)) := z2
  clear U2 c2 t2 z2
  refine takeH (i := 0) (d := (some 21)) (v := ?v1) rfl rfl (by kernel_rfl) (by kernel_rfl) (by kernel_rfl) (fun _ _ _ h => h) (by rfl) ?hy1 (by assumption) ?_
  case hy1 => ((intro w hSw; (try dsimp only at hSw); (try go_split_ands); go_simp); try with_reducible rfl)
  simp only [Act.put, List.setIfInBounds_toArray, List.set_cons_zero, List.set_cons_succ]
  refine takeH (i := 1) (d := (some 22)) (v := ?v2) rfl rfl (by kernel_rfl) (by kernel_rfl) (by kernel_rfl) (fun _ _ _ h => h) (by rfl) ?hy2 (by assumption) ?_
  case hy2 => ((intro w hSw; (try dsimp only at hSw); (try go_split_ands); go_simp); try with_reducible rfl)
  simp only [Act.put, List.setIfInBounds_toArray, List.set_cons_zero, List.set_cons_succ]
  refine takeH (i := 2) (d := (some 23)) (v := ?v3) rfl rfl (by kernel_rfl) (by kernel_rfl) (by kernel_rfl) (fun _ _ _ h => h) (by rfl) ?hy3 (by assumption) ?_
  case hy3 => ((intro w hSw; (try dsimp only at hSw); (try go_split_ands); go_simp); try with_reducible rfl)
  simp only [Act.put, List.setIfInBounds_toArray, List.set_cons_zero, List.set_cons_succ]
  refine takeH (i := 4) (d := (some 25)) (v := ?v4) rfl rfl (by kernel_rfl) (by kernel_rfl) (by kernel_rfl) (fun _ _ _ h => h) (by rfl) ?hy4 (by assumption) ?_
  case hy4 => ((intro w hSw; (try dsimp only at hSw); (try go_split_ands); go_simp); try with_reducible rfl)
  simp only [Act.put, List.setIfInBounds_toArray, List.set_cons_zero, List.set_cons_succ]
  refine takeH (i := 5) (d := (some 26)) (v := ?v5) rfl rfl (by kernel_rfl) (by kernel_rfl) (by kernel_rfl) (fun _ _ _ h => h) (by rfl) ?hy5 (by assumption) ?_
  case hy5 => ((intro w hSw; (try dsimp only at hSw); (try go_split_ands); go_simp); try with_reducible rfl)
  simp only [Act.put, List.setIfInBounds_toArray, List.set_cons_zero, List.set_cons_succ]
  refine wpAnyH_ready (rs := [3]) (by kernel_rfl) (by simp) ?_
  refine AllReadyH.cons rfl (fun K hK => ?_) AllReadyH.nil
  go_simp
  refine (HR.out _ hHeld.1).mono ?_
  rintro e w4 ⟨rfl, v4⟩
  have z4 := v4.blk z3
  go_wp2_with fail
  refine hK.out _ _ ⟨hHeld.1.trans v4, v4.blk hHeld.2.1, v4.blk hHeld.2.2⟩ (fun hHeld => ?_)
  clear hK K v4 z3 HR
  refine wpAnyH_ready (rs := [6]) (by kernel_rfl) (by simp) ?_
  refine AllReadyH.cons rfl (fun K hK => ?_) AllReadyH.nil
  go_simp
  refine (HA.out _ hHeld.1).mono ?_
  rintro e w5 ⟨rfl, v5⟩
  have z5 := v5.blk z4
  go_wp2_with fail
  refine hK.out _ _ ⟨hHeld.1.trans v5, v5.blk hHeld.2.1, v5.blk hHeld.2.2⟩ (fun hHeld => ?_)
  clear hK K v5 z4 HA
  refine wpAnyH_ready (rs := [7]) (by kernel_rfl) (by simp) ?_
  refine AllReadyH.cons rfl (fun K hK => ?_) AllReadyH.nil
  go_simp
  refine (HM.out _ _).mono ?_
  rintro e w6 ⟨rfl, v6⟩
  have z6 := v6.blk z5
  go_wp2_with fail
  refine hK.out _ _ ⟨hHeld.1.trans v6, v6.blk hHeld.2.1, v6.blk hHeld.2.2⟩ (fun hHeld => ?_)
  clear hK K v6 z5 HM
  have f6 := cellB z6
  have y6 := frozB z6
  refine wpAnyH_ready (rs := [8]) (by kernel_rfl) (by simp) ?_
  refine AllReadyH.cons rfl (fun K hK => ?_) AllReadyH.nil
  go_simp
  refine hK.out _ _ ⟨hHeld.1.set4 (b := w.heap.size + 1 + 1) (by omega) (.int .i64 LA) (.int .i64 LB) (.int .i64 LC) (.int .i64 RS), by rw [set4_other _ (b := w.heap.size + 1 + 1) (n := w.heap.size) (by omega)]; exact hHeld.2.1, by rw [set4_other _ (b := w.heap.size + 1 + 1) (n := w.heap.size + 1) (by omega)]; exact hHeld.2.2⟩ (fun hHeld => ?_)
  clear hK K f6 y6
  refine takeH (i := 9) (d := (some 7)) (v := ?v10) rfl rfl (by kernel_rfl) (by kernel_rfl) (by kernel_rfl) (fun _ _ _ h => h) (by rfl) ?hy10 (by assumption) ?_
  case hy10 => ((intro w hSw; (try dsimp only at hSw); (try go_split_ands); go_simp); try with_reducible rfl)
  simp only [Act.put, List.setIfInBounds_toArray, List.set_cons_zero, List.set_cons_succ]
  refine wpAnyH_done (by kernel_rfl) ?_ _
  have z7 := set4_same z6 (.int .i64 LA) (.int .i64 LB) (.int .i64 LC) (.int .i64 RS)
  have f7 := cellB z7
  go_wp2
  refine bodyPost_ret (v := .tuple #[rd LA LB LC RS, .int .i64 0]) (by simp [results, Try.results32, go_sem, f7]) rfl ⟨rfl, hHeld.1⟩
/-- what both return -/
theorem both_Local (A : CalArg w a n c L) (hn : n ≤ 17592186044000) (B : TownArg w a' n' c' M) (t : Int) : ∃ R1 R2 R3 R4 e : Int, (∀ w', Up w w' → Calls Try.prog 31 #[.agg #[.int .i64 h, .int .i64 m, .int .i64 s, .int .i64 d, .slice a n c], .agg #[.int .i64 ah, .slice a' n' c'], .int .i64 t] w' fun x w'' => x = .returned (.tuple #[rd R1 R2 R3 R4, .int .i64 e]) ∧ Up w' w'') ∧ ∀ w', Up w w' → Calls Try.prog 32 #[.agg #[.int .i64 h, .int .i64 m, .int .i64 s, .int .i64 d, .slice a n c], .agg #[.int .i64 ah, .slice a' n' c'], .int .i64 t] w' fun x w'' => x = .returned (.tuple #[rd R1 R2 R3 R4, .int .i64 e]) ∧ Up w' w'' := by
  by_cases he : D.townE h m s d L ah M = 0
  · have hv : D.valid h m s d L = true := by
      cases hv : D.valid h m s d L
      · simp [D.townE, hv] at he
      · rfl
    have ht : D.townOk (D.beg h m s (D.deeds L L.length) d.toNat) ah M = true := by
      cases ht : D.townOk (D.beg h m s (D.deeds L L.length) d.toNat) ah M
      · simp [D.townE, hv, ht] at he
      · rfl
    cases hk : inB t 0 (D.beg h m s (D.deeds L L.length) d.toNat - 1)
    · exact ⟨0, 0, 0, 0, 11, fun _ u => Local_ask (A.up u) (B.up u) t hv ht hk, fun _ u => r_Local_ask (A.up u) hn (B.up u) t hv ht hk⟩
    · exact ⟨_, _, _, _, 0, fun _ u => Local_yes (A.up u) (B.up u) t hv ht hk, fun _ u => r_Local_yes (A.up u) hn (B.up u) t hv ht hk⟩
  · exact ⟨0, 0, 0, 0, _, fun _ u => Local_no (A.up u) (B.up u) t he, fun _ u => r_Local_no (A.up u) hn (B.up u) t he⟩
end

end Go.Proofs.Ytfmnfingliflkaa
