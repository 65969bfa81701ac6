import Derived.Test.YtnaibklajocejaaTickC
/- The walk of the law DialNext, where a tick is told. -/
namespace Go.Proofs.Ytnaibklajocejaa
open Go.RowKit
theorem cell_BOX3A {w : World} {b : Nat} {cs : Array Value} (h : mblk w b = some (.cells cs 69 (0, 0))) (j : Nat) : w.cell? ⟨b, j, none⟩ = cs[j]? := cellB h j
attribute [local go_sem] cell_BOX3A cell_CAL

set_option maxRecDepth 100000 in
set_option maxHeartbeats 3000000 in
theorem dialNext_A {h m s d : Int} {a : Option Addr} {n c : Nat} {L : List (Int × Bool)} {w : World} (A : CalArg w a n c L) (n0 n1 n2 : Int) (hv : D.valid h m s d L = true) (v : Int)
    (hN : NextIs (D.rS h m s (D.deeds L L.length) d.toNat) (n0 % D.beg h m s (D.deeds L L.length) d.toNat) (D.beg h m s (D.deeds L L.length) d.toNat) (1 + n1 % 60) v true) :
    Calls Try.prog 11 #[.agg #[.int .i64 h, .int .i64 m, .int .i64 s, .int .i64 d, .slice a n c], .agg #[.int .i64 n0, .int .i64 n1, .int .i64 n2]] w fun e w' => e = .returned (.bool true) ∧ Up w w' := by
  have U0 := ((Up.refl w).alloc (.cells #[.int .i64 h, .int .i64 m, .int .i64 s, .int .i64 d, .slice a n c] 24)).alloc (.cells #[.int .i64 n0, .int .i64 n1, .int .i64 n2] 69)
  have H0 := Lib.hid (l_sound_any (h := h) (m := m) (s := s) (d := d) (A.up U0))
  rw [hv] at H0
  obtain ⟨h1, h2, m1, m2, s1, s2, d1, d2⟩ := D.valid_bd hv
  have tb := D.beg_bd h m s (D.deeds L L.length) h1 h2 m1 m2 s1 s2 d.toNat
  have H1 := Lib.hid (fun w' (u : Up w w') => l_ticksOf_any (h := h) (m := m) (s := s) (d := d) (A.up u) hv)
  have H2 := Lib.hid (fun t w' (u : Up w w') t0 t1 => Reading_rd (h := h) (m := m) (s := s) (d := d) (A.up u) t hv t0 t1)
  have T1 : 1 ≤ D.beg h m s (D.deeds L L.length) d.toNat := by omega
  have T2 : D.beg h m s (D.deeds L L.length) d.toNat ≤ 1000000 := by omega
  have i0 := Int.emod_nonneg n0 (show D.beg h m s (D.deeds L L.length) d.toNat ≠ 0 by omega)
  have i1 := Int.emod_lt_of_pos n0 (show 0 < D.beg h m s (D.deeds L L.length) d.toNat by omega)
  have k0 := Int.emod_nonneg n1 (show (60 : Int) ≠ 0 by omega)
  have k1 := Int.emod_lt_of_pos n1 (show (0 : Int) < 60 by omega)
  have HR := fun (t : Int) (t0 : 0 ≤ t) (j : Nat) hj hn => D.run_le (h := h) (m := m) (s := s) (x := D.deeds L L.length) (n := d.toNat) (t := t) (each := 1 + n1 % 60) h1 h2 m1 m2 s1 s2 t0 j hj hn
  have hN' := hN
  rcases hN' with ⟨x, hx, hNN, hz, hvx, _⟩ | ⟨_, _, hf⟩
  rotate_left
  · cases hf
  have hs := HR _ i0 x (by omega) (fun i hi => hNN i (by rw [List.mem_range]; exact hi))
  have HX := Lib.hid (fun (y : Nat) w' (u : Up w w') (hy : n0 % D.beg h m s (D.deeds L L.length) d.toNat + (y : Int) ≤ v) => show Calls Try.prog 28 #[.agg #[.int .i64 h, .int .i64 m, .int .i64 s, .int .i64 d, .slice a n c], .int .i64 (n0 % D.beg h m s (D.deeds L L.length) d.toNat + (y : Int)), .int .i64 (1 + n1 % 60)] w' fun e w'' => e = .returned (.tuple #[.int .i64 v, .int .i64 0]) ∧ Up w' w'' from
    Next_yes (A.up u) _ _ v hv (inB_yes (by omega) (by omega)) (by omega) (by omega) (hN.on y (by simpa using hy)))
  have HNZ := Lib.hid (fun (j : Nat) (hj : n0 % D.beg h m s (D.deeds L L.length) d.toNat + (j : Int) < v) => show ¬ (D.rS h m s (D.deeds L L.length) d.toNat (n0 % D.beg h m s (D.deeds L L.length) d.toNat + (j : Int))).tmod (1 + n1 % 60) = 0 from hNN j (by rw [List.mem_range]; omega))
  have HZ := Lib.hid (show (D.rS h m s (D.deeds L L.length) d.toNat v).tmod (1 + n1 % 60) = 0 by rw [hvx]; exact hz)
  have vx : n0 % D.beg h m s (D.deeds L L.length) d.toNat ≤ v ∧ v < D.beg h m s (D.deeds L L.length) d.toNat ∧ v - n0 % D.beg h m s (D.deeds L L.length) d.toNat ≤ s := by omega
  clear hNN hz hvx hs hx
  clear A hv tb hN HR
  generalize D.rA h m s (D.deeds L L.length) d.toNat = fA at *
  generalize D.rB h m s (D.deeds L L.length) d.toNat = fB at *
  generalize D.rC h m s (D.deeds L L.length) d.toNat = fC at *
  generalize D.rS h m s (D.deeds L L.length) d.toNat = fS at *
  generalize hTT : D.beg h m s (D.deeds L L.length) d.toNat = T at *
  generalize ht : n0 % T = t at *
  generalize hr : n1 % 60 = r at *
  clear hTT
  have ewr : IntKind.i64.wrap (1 + r) = 1 + r := IntWalk.i64_in _ (by omega)
  have ewT : IntKind.i64.wrap (T - 1) = T - 1 := IntWalk.i64_in _ (by omega)
  have ews : IntKind.i64.wrap (2 * s) = 2 * s := IntWalk.i64_in _ (by omega)
  have ewd : IntKind.i64.wrap (v - t) = v - t := IntWalk.i64_in _ (by omega)
  have lt1 : ¬ (v < t) := by omega
  have lt2 : ¬ (T < v) := by omega
  have lt3 : ¬ (2 * s < v - t) := by omega
  have hM : ∀ (ts : Array TypeId) (t' : TypeId) (w : World), (Builtin.min_ ts t' #[.int .i64 v, .int .i64 (T - 1)]).run Try.prog w = .ok (.int .i64 v) w := fun ts t' w => by
    have e : (if T - 1 < v then T - 1 else v) = v := by split <;> omega
    rw [run_min_int2, e]
  have y0 := Int.emod_nonneg n2 (show v - t + 1 ≠ 0 by omega)
  have y1 := Int.emod_lt_of_pos n2 (show 0 < v - t + 1 by omega)
  obtain ⟨y, hy⟩ : ∃ y : Nat, n2 % (v - t + 1) = y := ⟨(n2 % (v - t + 1)).toNat, by omega⟩
  rw [hy] at y0 y1
  go_enter Try.func11, Try.ntmps11
  go_wp2_with fail
  obtain ⟨W0, hW0⟩ : ∃ W0, (w.alloc (.cells #[.int .i64 h, .int .i64 m, .int .i64 s, .int .i64 d, .slice a n c] 24)).alloc (.cells #[.int .i64 n0, .int .i64 n1, .int .i64 n2] 69) = W0 := ⟨_, rfl⟩
  rw [hW0] at H0 U0
  have c0 : mblk W0 w.heap.size = some (.cells #[.int .i64 h, .int .i64 m, .int .i64 s, .int .i64 d, .slice a n c] 24) := by rw [← hW0]; exact blk_keep _ (blk_new _ _ _ rfl)
  have b0 : mblk W0 (w.heap.size + 1) = some (.cells #[.int .i64 n0, .int .i64 n1, .int .i64 n2] 69) := by rw [← hW0]; exact blk_new _ _ _ (by simp)
  rw [hW0]
  clear hW0
  refine H0.out.mono ?_
  rintro e w1 ⟨rfl, u1⟩
  have U1 := U0.trans u1
  have c1 := u1.blk c0
  have b1 := u1.blk b0
  have f1 := cellB c1
  clear u1 U0 c0 b0 H0
  go_wp2_with fail
  refine (H1.out _ U1).mono ?_
  rintro e w2 ⟨rfl, u2⟩
  have U2 := U1.trans u2
  have c2 := u2.blk c1
  have b2 := u2.blk b1
  clear u2 U1 c1 b1 f1 H1
  go_wp2_with fail
  refine wp_region_held_drew (S := fun w' => Up w w' ∧ mblk w' w.heap.size = some (.cells #[.int .i64 h, .int .i64 m, .int .i64 s, .int .i64 d, .slice a n c] 24 (0, 0)) ∧ mblk w' (w.heap.size + 1) = some (.cells #[.int .i64 n0, .int .i64 n1, .int .i64 n2] 69 (0, 0))) (by kernel_rfl) ⟨U2.drew, by rw [blk_drew]; exact c2, by rw [blk_drew]; exact b2⟩ (fun hHeld => ?_)
  clear U2 c2 b2
  refine takeH (i := 0) (d := (some 30)) (v := ?v1) rfl rfl (by kernel_rfl) (by kernel_rfl) (by kernel_rfl) (fun _ _ _ h => h) (by rfl) ?hy1 (by assumption) ?_
  case hy1 => ((intro w hSw; (try dsimp only at hSw); (try go_split_ands); go_simp); try with_reducible rfl)
  simp only [Act.put, List.setIfInBounds_toArray, List.set_cons_zero, List.set_cons_succ]
  refine takeH (i := 2) (d := (some 32)) (v := ?v2) rfl rfl (by kernel_rfl) (by kernel_rfl) (by kernel_rfl) (fun _ _ _ h => h) (by rfl) ?hy2 (by assumption) ?_
  case hy2 => ((intro w hSw; (try dsimp only at hSw); (try go_split_ands); go_simp); try with_reducible rfl)
  simp only [Act.put, List.setIfInBounds_toArray, List.set_cons_zero, List.set_cons_succ]
  refine takeH (i := 4) (d := (some 34)) (v := ?v3) rfl rfl (by kernel_rfl) (by kernel_rfl) (by kernel_rfl) (fun _ _ _ h => h) (by rfl) ?hy3 (by assumption) ?_
  case hy3 => ((intro w hSw; (try dsimp only at hSw); (try go_split_ands); go_simp); try with_reducible rfl)
  simp only [Act.put, List.setIfInBounds_toArray, List.set_cons_zero, List.set_cons_succ]
  refine takeH (i := 1) (d := (some 31)) (v := ?v4) rfl rfl (by kernel_rfl) (by kernel_rfl) (by kernel_rfl) (fun _ _ _ h => h) (by rfl) ?hy4 (by assumption) ?_
  case hy4 => ((intro w hSw; (try dsimp only at hSw); (try go_split_ands); go_simp); try with_reducible rfl)
  simp only [Act.put, List.setIfInBounds_toArray, List.set_cons_zero, List.set_cons_succ]
  refine takeH (i := 5) (d := (some 35)) (v := ?v5) rfl rfl (by kernel_rfl) (by kernel_rfl) (by kernel_rfl) (fun _ _ _ h => h) (by rfl) ?hy5 (by assumption) ?_
  case hy5 => ((intro w hSw; (try dsimp only at hSw); (try go_split_ands); go_simp); try with_reducible rfl)
  simp only [Act.put, List.setIfInBounds_toArray, List.set_cons_zero, List.set_cons_succ]
  refine wpAnyH_ready (rs := [3]) (by kernel_rfl) (by simp) ?_
  refine AllReadyH.cons rfl (fun K hK => ?_) AllReadyH.nil
  go_simp
  refine (l_Rest_any _ _ _ T1 (by omega)).mono ?_
  rintro e w3 ⟨rfl, rfl⟩
  rw [ht]
  go_wp2_with fail
  refine hK.out _ _ hHeld (fun hHeld => ?_)
  clear hK K
  refine wpAnyH_ready (rs := [6]) (by kernel_rfl) (by simp) ?_
  refine AllReadyH.cons rfl (fun K hK => ?_) AllReadyH.nil
  go_simp
  refine (l_Rest_any _ _ _ (by omega) (by omega)).mono ?_
  rintro e w3 ⟨rfl, rfl⟩
  rw [hr]
  go_wp2_with fail
  refine hK.out _ _ hHeld (fun hHeld => ?_)
  clear hK K
  refine takeH (i := 7) (d := (some 37)) (v := ?v8) rfl rfl (by kernel_rfl) (by kernel_rfl) (by kernel_rfl) (fun _ _ _ h => h) (by rfl) ?hy8 (by assumption) ?_
  case hy8 => ((intro w hSw; (try dsimp only at hSw); (try go_split_ands); go_simp); try with_reducible rfl)
  simp only [Act.put, List.setIfInBounds_toArray, List.set_cons_zero, List.set_cons_succ]
  refine takeH (i := 8) (d := (some 7)) (v := ?v9) rfl rfl (by kernel_rfl) (by kernel_rfl) (by kernel_rfl) (fun _ _ _ h => h) (by rfl) ?hy9 (by assumption) ?_
  case hy9 => ((intro w hSw; (try dsimp only at hSw); (try go_split_ands); go_simp); try with_reducible rfl)
  simp only [Act.put, List.setIfInBounds_toArray, List.set_cons_zero, List.set_cons_succ]
  refine takeH (i := 9) (d := (some 8)) (v := ?v10) rfl rfl (by kernel_rfl) (by kernel_rfl) (by kernel_rfl) (fun _ _ _ h => h) (by rfl) ?hy10 (by assumption) ?_
  case hy10 => ((intro w hSw; (try dsimp only at hSw); (try go_split_ands); go_simp); try with_reducible rfl)
  simp only [Act.put, List.setIfInBounds_toArray, List.set_cons_zero, List.set_cons_succ]
  refine wpAnyH_done (by kernel_rfl) ?_ _
  obtain ⟨U3, c3, b3⟩ := hHeld
  obtain ⟨E, hE⟩ : ∃ E, 1 + r = E := ⟨_, rfl⟩
  rw [hE] at HX HNZ HZ ⊢
  have E1 : 1 ≤ E := by omega
  have E2 : E ≤ 60 := by omega
  have E0 : ¬ E = 0 := by omega
  have f3 := cellB c3
  clear ewr hE hr ht
  go_wp2_with fail
  have HX0 := HX.out 0 _ U3 (by omega)
  rw [show t + ((0 : Nat) : Int) = t by simp] at HX0
  refine HX0.mono ?_
  rintro e w4 ⟨rfl, u4⟩
  have U4 := U3.trans u4
  have c4 := u4.blk c3
  have b4 := u4.blk b3
  have f4 := cellB c4
  clear u4 U3 c3 b3 f3 HX0
  go_wp2_with fail
  go_loopw [12] (fun t' wr => ∃ j : Nat, t + (j : Int) ≤ v ∧ t' = .int .i64 (t + (j : Int)) ∧ mblk wr w.heap.size = some (.cells #[.int .i64 h, .int .i64 m, .int .i64 s, .int .i64 d, .slice a n c] 24) ∧ mblk wr (w.heap.size + 1) = some (.cells #[.int .i64 n0, .int .i64 n1, .int .i64 n2] 69) ∧ Up w wr) (fun t' _ => (v - intOf t').toNat)
  case atStart => exact ⟨0, by omega, by simp, c4, b4, U4⟩
  case round =>
    obtain ⟨j, hj, rfl, cj, bj, Uj⟩ := hrel
    have fj := cellB cj
    by_cases hlt : t + (j : Int) < v
    · have hz := HNZ.out j hlt
      have hz' : ((fS (t + (j : Int))).tmod E == 0) = false := by simp [hz]
      clear hM HNZ c4 b4 U4 f4
      go_wp2_with fail
      refine (H2.out _ _ Uj (by omega) (by omega)).mono ?_
      rintro e w5 ⟨rfl, u5⟩
      have U5 := Uj.trans u5
      have c5 := u5.blk cj
      have b5 := u5.blk bj
      clear u5 Uj cj bj fj H2
      go_wp2
      go_roundw
      case rel => exact ⟨j + 1, by omega, by go_num, blk_keep _ c5, blk_keep _ b5, U5.alloc _⟩
      case measure => simp [intOf]; omega
    · have hz' : ((fS v).tmod E != 0) = false := by simp [HZ.out]
      clear HNZ c4 b4 U4 f4
      go_wp2_with fail
      refine (H2.out v _ Uj (by omega) (by omega)).mono ?_
      rintro e w5 ⟨rfl, u5⟩
      have UZ := (Uj.trans u5).alloc (.cells #[.int .i64 (fA v), .int .i64 (fB v), .int .i64 (fC v), .int .i64 (fS v)] 27)
      have cZ := blk_keep (.cells #[.int .i64 (fA v), .int .i64 (fB v), .int .i64 (fC v), .int .i64 (fS v)] 27) (u5.blk cj)
      have bZ := blk_keep (.cells #[.int .i64 (fA v), .int .i64 (fB v), .int .i64 (fC v), .int .i64 (fS v)] 27) (u5.blk bj)
      clear u5 Uj cj bj fj H2
      go_wp2_with fail
      refine wp_region_held_drew (S := fun w' => Up w w' ∧ mblk w' w.heap.size = some (.cells #[.int .i64 h, .int .i64 m, .int .i64 s, .int .i64 d, .slice a n c] 24 (0, 0)) ∧ mblk w' (w.heap.size + 1) = some (.cells #[.int .i64 n0, .int .i64 n1, .int .i64 n2] 69 (0, 0))) (by kernel_rfl) ⟨UZ.drew, by rw [blk_drew]; exact cZ, by rw [blk_drew]; exact bZ⟩ (fun hHeld => ?_)
      clear UZ cZ bZ
      refine takeH (i := 0) (d := (some 111)) (v := ?v11) rfl rfl (by kernel_rfl) (by kernel_rfl) (by kernel_rfl) (fun _ _ _ h => h) (by rfl) ?hy11 (by assumption) ?_
      case hy11 => ((intro w hSw; (try dsimp only at hSw); (try go_split_ands); go_simp); try with_reducible rfl)
      simp only [Act.put, List.setIfInBounds_toArray, List.set_cons_zero, List.set_cons_succ]
      refine takeH (i := 1) (d := (some 112)) (v := ?v12) rfl rfl (by kernel_rfl) (by kernel_rfl) (by kernel_rfl) (fun _ _ _ h => h) (by rfl) ?hy12 (by assumption) ?_
      case hy12 => ((intro w hSw; (try dsimp only at hSw); (try go_split_ands); go_simp); try with_reducible rfl)
      simp only [Act.put, List.setIfInBounds_toArray, List.set_cons_zero, List.set_cons_succ]
      refine takeH (i := 2) (d := (some 113)) (v := ?v13) rfl rfl (by kernel_rfl) (by kernel_rfl) (by kernel_rfl) (fun _ _ _ h => h) (by rfl) ?hy13 (by assumption) ?_
      case hy13 => ((intro w hSw; (try dsimp only at hSw); (try go_split_ands); go_simp); try with_reducible rfl)
      simp only [Act.put, List.setIfInBounds_toArray, List.set_cons_zero, List.set_cons_succ]
      refine takeH (i := 3) (d := (some 114)) (v := ?v14) rfl rfl (by kernel_rfl) (by kernel_rfl) (by kernel_rfl) (fun _ _ _ h => h) (by rfl) ?hy14 (by assumption) ?_
      case hy14 => ((intro w hSw; (try dsimp only at hSw); (try go_split_ands); go_simp); try with_reducible rfl)
      simp only [Act.put, List.setIfInBounds_toArray, List.set_cons_zero, List.set_cons_succ]
      refine takeH (i := 7) (d := (some 118)) (v := ?v15) rfl rfl (by kernel_rfl) (by kernel_rfl) (by kernel_rfl) (fun _ _ _ h => h) (by rfl) ?hy15 (by assumption) ?_
      case hy15 => ((intro w hSw; (try dsimp only at hSw); (try go_split_ands); go_simp); try with_reducible rfl)
      simp only [Act.put, List.setIfInBounds_toArray, List.set_cons_zero, List.set_cons_succ]
      refine takeH (i := 10) (d := (some 121)) (v := ?v16) rfl rfl (by kernel_rfl) (by kernel_rfl) (by kernel_rfl) (fun _ _ _ h => h) (by rfl) ?hy16 (by assumption) ?_
      case hy16 => ((intro w hSw; (try dsimp only at hSw); (try go_split_ands); go_simp); try with_reducible rfl)
      simp only [Act.put, List.setIfInBounds_toArray, List.set_cons_zero, List.set_cons_succ]
      refine takeH (i := 4) (d := (some 115)) (v := ?v17) rfl rfl (by kernel_rfl) (by kernel_rfl) (by kernel_rfl) (fun _ _ _ h => h) (by rfl) ?hy17 (by assumption) ?_
      case hy17 => ((intro w hSw; (try dsimp only at hSw); (try go_split_ands); go_simp); try with_reducible rfl)
      simp only [Act.put, List.setIfInBounds_toArray, List.set_cons_zero, List.set_cons_succ]
      refine takeH (i := 8) (d := (some 119)) (v := ?v18) rfl rfl (by kernel_rfl) (by kernel_rfl) (by kernel_rfl) (fun _ _ _ h => h) (by rfl) ?hy18 (by assumption) ?_
      case hy18 => ((intro w hSw; (try dsimp only at hSw); (try go_split_ands); go_simp); try with_reducible rfl)
      simp only [Act.put, List.setIfInBounds_toArray, List.set_cons_zero, List.set_cons_succ]
      refine takeH (i := 5) (d := (some 116)) (v := .int .i64 v) rfl rfl (by kernel_rfl) (by kernel_rfl) (by kernel_rfl) (fun _ _ _ h => h) (by rfl) ?hymin (by assumption) ?_
      case hymin => ((intro w hSw; (try dsimp only at hSw); go_simp); try with_reducible rfl)
      simp only [Act.put, List.setIfInBounds_toArray, List.set_cons_zero, List.set_cons_succ]
      refine wpAnyH_ready (rs := [6]) (by kernel_rfl) (by simp) ?_
      refine AllReadyH.cons rfl (fun K hK => ?_) AllReadyH.nil
      go_simp
      refine (l_To_any _ _ _).mono ?_
      rintro e w6 ⟨rfl, u6⟩
      go_wp2_with fail
      refine hK.out _ _ ⟨hHeld.1.trans u6, u6.blk hHeld.2.1, u6.blk hHeld.2.2⟩ (fun hHeld => ?_)
      clear hK K u6
      refine wpAnyH_ready (rs := [9]) (by kernel_rfl) (by simp) ?_
      refine AllReadyH.cons rfl (fun K hK => ?_) AllReadyH.nil
      go_simp
      refine (l_From_any _ _ _ _ i0 (by omega) (by omega)).mono ?_
      rintro e w7 ⟨rfl, u7⟩
      rw [hy]
      go_wp2_with fail
      refine hK.out _ _ ⟨hHeld.1.trans u7, u7.blk hHeld.2.1, u7.blk hHeld.2.2⟩ (fun hHeld => ?_)
      clear hK K u7
      refine wpAnyH_ready (rs := [11]) (by kernel_rfl) (by simp) ?_
      refine AllReadyH.cons rfl (fun K hK => ?_) AllReadyH.nil
      go_simp
      refine (HX.out y _ hHeld.1 (by omega)).mono ?_
      rintro e w8 ⟨rfl, u8⟩
      go_wp2_with fail
      refine hK.out _ _ ⟨hHeld.1.trans u8, u8.blk hHeld.2.1, u8.blk hHeld.2.2⟩ (fun hHeld => ?_)
      clear hK K u8
      refine takeH (i := 12) (d := (some 110)) (v := ?v22) rfl rfl (by kernel_rfl) (by kernel_rfl) (by kernel_rfl) (fun _ _ _ h => h) (by rfl) ?hy22 (by assumption) ?_
      case hy22 => ((intro w hSw; (try dsimp only at hSw); (try go_split_ands); go_simp); try with_reducible rfl)
      simp only [Act.put, List.setIfInBounds_toArray, List.set_cons_zero, List.set_cons_succ]
      refine takeH (i := 13) (d := (some 123)) (v := ?v23) rfl rfl (by kernel_rfl) (by kernel_rfl) (by kernel_rfl) (fun _ _ _ h => h) (by rfl) ?hy23 (by assumption) ?_
      case hy23 => ((intro w hSw; (try dsimp only at hSw); (try go_split_ands); go_simp); try with_reducible rfl)
      simp only [Act.put, List.setIfInBounds_toArray, List.set_cons_zero, List.set_cons_succ]
      refine takeH (i := 14) (d := (some 124)) (v := ?v24) rfl rfl (by kernel_rfl) (by kernel_rfl) (by kernel_rfl) (fun _ _ _ h => h) (by rfl) ?hy24 (by assumption) ?_
      case hy24 => ((intro w hSw; (try dsimp only at hSw); (try go_split_ands); go_simp); try with_reducible rfl)
      simp only [Act.put, List.setIfInBounds_toArray, List.set_cons_zero, List.set_cons_succ]
      refine takeH (i := 15) (d := (some 17)) (v := ?v25) rfl rfl (by kernel_rfl) (by kernel_rfl) (by kernel_rfl) (fun _ _ _ h => h) (by rfl) ?hy25 (by assumption) ?_
      case hy25 => ((intro w hSw; (try dsimp only at hSw); (try go_split_ands); go_simp); try with_reducible rfl)
      simp only [Act.put, List.setIfInBounds_toArray, List.set_cons_zero, List.set_cons_succ]
      refine takeH (i := 16) (d := (some 18)) (v := ?v26) rfl rfl (by kernel_rfl) (by kernel_rfl) (by kernel_rfl) (fun _ _ _ h => h) (by rfl) ?hy26 (by assumption) ?_
      case hy26 => ((intro w hSw; (try dsimp only at hSw); (try go_split_ands); go_simp); try with_reducible rfl)
      simp only [Act.put, List.setIfInBounds_toArray, List.set_cons_zero, List.set_cons_succ]
      refine wpAnyH_done (by kernel_rfl) ?_ _
      obtain ⟨U9, _, _⟩ := hHeld
      go_wp2_with fail
      refine (l_works_any _).mono ?_
      rintro e w10 ⟨rfl, u10⟩
      go_wp2
      go_ret
      exact ⟨rfl, U9.trans u10⟩

end Go.Proofs.Ytnaibklajocejaa
