import Derived.Test.YtghelfbigbdkkaaTownA
/- The contracts of dial's CheckTown, aheadAt and local. -/
namespace Go.Proofs.Ytghelfbigbdkkaa
open Go.RowKit

/-- what CheckTown returns -/
def D.townE (h m s d : Int) (L : List (Int × Bool)) (ah : Int) (M : List (Int × Int)) : Int :=
  if D.valid h m s d L = true then (if D.townOk (D.beg h m s (D.deeds L L.length) d.toNat) ah M = true then 0 else 12) else 10
theorem newTown_e {h m s d : Int} {a : Option Addr} {n c : Nat} {L : List (Int × Bool)} {ah : Int} {a' : Option Addr} {n' c' : Nat} {M : List (Int × Int)} {w : World} (A : CalArg w a n c L) (B : TownArg w a' n' c' M) : ∃ ts, Ok17 ts ∧ Calls Try.prog 29 #[.agg #[.int .i64 h, .int .i64 m, .int .i64 s, .int .i64 d, .slice a n c], .agg #[.int .i64 ah, .slice a' n' c']] w fun e w' => e = .returned (.tuple #[.agg ts, .int .i64 (D.townE h m s d L ah M)]) ∧ Up w w' := by
  cases hv : D.valid h m s d L
  · have e : D.townE h m s d L ah M = 10 := by simp [D.townE, hv]
    rw [e]; exact ⟨_, townN_ok, newTown_cal A hv⟩
  · cases ht : D.townOk (D.beg h m s (D.deeds L L.length) d.toNat) ah M
    · have e : D.townE h m s d L ah M = 12 := by simp [D.townE, hv, ht]
      rw [e]; exact ⟨_, townN_ok, newTown_no A B hv ht⟩
    · have e : D.townE h m s d L ah M = 0 := by simp [D.townE, hv, ht]
      obtain ⟨cs, N, _, V, K⟩ := newTown_ok A B hv ht
      rw [e]; exact ⟨_, twn_ok V ah a' n' c', K⟩

set_option maxRecDepth 100000 in
theorem CheckTown_any {h m s d : Int} {a : Option Addr} {n c : Nat} {L : List (Int × Bool)} {ah : Int} {a' : Option Addr} {n' c' : Nat} {M : List (Int × Int)} {w : World} (A : CalArg w a n c L) (B : TownArg w a' n' c' M) : Calls Try.prog 16 #[.agg #[.int .i64 h, .int .i64 m, .int .i64 s, .int .i64 d, .slice a n c], .agg #[.int .i64 ah, .slice a' n' c']] w fun e w' => e = .returned (.int .i64 (D.townE h m s d L ah M)) ∧ Up w w' := by
  obtain ⟨ts, ho, K⟩ := newTown_e (ah := ah) (d := d) (h := h) (m := m) (s := s) (c := c) (c' := c') (A.up (((Up.refl w).alloc (.cells #[.int .i64 h, .int .i64 m, .int .i64 s, .int .i64 d, .slice a n c] 24)).alloc (.cells #[.int .i64 ah, .slice a' n' c'] 44))) (B.up (((Up.refl w).alloc (.cells #[.int .i64 h, .int .i64 m, .int .i64 s, .int .i64 d, .slice a n c] 24)).alloc (.cells #[.int .i64 ah, .slice a' n' c'] 44)))
  have HK := Lib.hid K
  generalize D.townE h m s d L ah M = E at *
  clear K
  go_enter Try.func16, Try.ntmps16
  go_wp2_with fail
  refine HK.out.mono ?_
  rintro e w1 ⟨rfl, u1⟩
  go_wp2
  go_ret
  exact ⟨rfl, ((((Up.refl _).alloc _).alloc _).trans u1).alloc _⟩

/-- how many minutes a town is ahead at a tick, by the first changes -/
def D.ahAt (ah : Int) (M : List (Int × Int)) (t : Int) : Nat → Int
  | 0 => ah
  | k + 1 => if (M.getD k (0, 0)).1 ≤ t then (M.getD k (0, 0)).2 else D.ahAt ah M t k

set_option maxRecDepth 100000 in
set_option maxHeartbeats 1000000 in
theorem aheadAt_any {ts cs : Array Value} {ah : Int} {a' : Option Addr} {n' c' : Nat} (T : Town ts cs ah a' n' c') {M : List (Int × Int)} {w : World} (B : TownArg w a' n' c' M) (hn : n' ≤ 6) (t : Int) :
    Calls Try.prog 31 #[.agg ts, .int .i64 t] w fun e w' => e = .returned (.int .i64 (D.ahAt ah M t n')) ∧ Up w w' := by
  have hs := Lib.hid T.sz
  have t15 := T.t15
  have t16 := T.t16
  have HB := Lib.hid B
  clear T B
  go_enter Try.func31, Try.ntmps31
  go_wp2_with fail
  go_loopw [5, 7, 15] (fun v _ i wr => ∃ k : Nat, k ≤ n' ∧ i = .int .i64 k ∧ v = .int .i64 (D.ahAt ah M t k) ∧ Up w wr) (fun _ _ i _ => n' - (intOf i).toNat)
  case atStart => exact ⟨0, Nat.zero_le _, rfl, rfl, (Up.refl _).alloc _⟩
  case round =>
    obtain ⟨k, hk, rfl, rfl, U1⟩ := hrel
    by_cases hlt : k < n'
    · obtain ⟨b, off, rfl, hC⟩ := HB.out.mem (by omega)
      have dd := hC.up U1
      have e1 := dd.tick k (by rw [← HB.out.len]; exact hlt)
      have e2 := dd.ahead k (by rw [← HB.out.len]; exact hlt)
      have e3 := dd.lt
      have HX := Lib.hid (show D.ahAt ah M t (k + 1) = if (M.getD k (0, 0)).1 ≤ t then (M.getD k (0, 0)).2 else D.ahAt ah M t k from rfl)
      generalize M.getD k (0, 0) = z at *
      clear hC dd
      by_cases g : z.1 ≤ t
      · have HY : Hid (D.ahAt ah M t (k + 1) = z.2) := by unfold Hid; rw [HX.out, if_pos g]
        clear HX
        go_wp2
        go_roundw
        case rel => exact ⟨k + 1, by omega, by go_num, by rw [HY.out], U1.alloc _⟩
        case measure => simp [intOf]; omega
      · have HY : Hid (D.ahAt ah M t (k + 1) = D.ahAt ah M t k) := by unfold Hid; rw [HX.out, if_neg g]
        clear HX
        go_wp2
        go_roundw
        case rel => exact ⟨k + 1, by omega, by go_num, by rw [HY.out], U1.alloc _⟩
        case measure => simp [intOf]; omega
    · obtain rfl : k = n' := by omega
      go_wp2
      go_ret
      exact ⟨rfl, U1⟩

/-- the minute of a local reading, counted through, as 64 bits hold it -/
def D.lmin (h m a b c ah : Int) : Int := wrap64 (D.cnt h m a b c + ah)
theorem D.lmin_bd (h m a b c ah : Int) : -9223372036854775808 ≤ D.lmin h m a b c ah ∧ D.lmin h m a b c ah ≤ 9223372036854775807 := by
  unfold D.lmin wrap64; omega

set_option maxRecDepth 100000 in
set_option maxHeartbeats 1000000 in
theorem local_any {cs : Array Value} {h m s d : Int} {x : Nat → Int} (C : Cal cs h m s d x) {ts : Array Value} {ah : Int} {a' : Option Addr} {n' c' : Nat} (T : Town ts cs ah a' n' c') (a b c q k : Int) (w : World) (h1 : 1 ≤ h) (h2 : h ≤ 24) (m1 : 1 ≤ m) (m2 : m ≤ 60) :
    Calls Try.prog 30 #[.agg ts, rd a b c q, .int .i64 k] w fun e w' => e = .returned (rd (D.lmin h m a b c k / (h * m)) (D.lmin h m a b c k % (h * m) / m) (D.lmin h m a b c k % (h * m) % m) q) ∧ Up w w' := by
  have hs := Lib.hid C.size
  have hT := T.cal
  have hz := Lib.hid T.sz
  clear T
  obtain ⟨n1, n2⟩ := D.lmin_bd h m a b c k
  have KD := Lib.hid (fun w => divided_any C (D.lmin h m a b c k) q w h1 h2 m1 m2 n1 n2)
  generalize D.lmin h m a b c k / (h * m) = R1 at *
  generalize D.lmin h m a b c k % (h * m) / m = R2 at *
  generalize D.lmin h m a b c k % (h * m) % m = R3 at *
  go_enter Try.func30, Try.ntmps30
  go_wp2_with fail
  obtain ⟨W0, hW0⟩ : ∃ W0, ((w.alloc (.cells ts 74)).alloc (.cells #[.int .i64 a, .int .i64 b, .int .i64 c, .int .i64 q] 34)).alloc (.cells #[.int .i64 0, .int .i64 0, .int .i64 0, .int .i64 0] 34) = W0 := ⟨_, rfl⟩
  have U0 : Up w W0 := by rw [← hW0]; exact ((Up.refl w).alloc _).alloc _ |>.alloc _
  have k3 : mblk W0 w.heap.size = some (.cells ts 74) := by rw [← hW0]; exact blk_keep _ (blk_keep _ (blk_new _ _ _ rfl))
  have k4 : mblk W0 (w.heap.size + 1) = some (.cells #[.int .i64 a, .int .i64 b, .int .i64 c, .int .i64 q] 34) := by rw [← hW0]; exact blk_keep _ (blk_new _ _ _ (by simp))
  have k6 : mblk W0 (w.heap.size + 1 + 1) = some (.cells #[.int .i64 0, .int .i64 0, .int .i64 0, .int .i64 0] 34) := by rw [← hW0]; exact blk_new _ _ _ (by simp)
  rw [hW0]
  clear hW0
  refine wp_region_held_drew (S := fun w' => mblk w' w.heap.size = some (.cells ts 74 (0, 0)) ∧ mblk w' (w.heap.size + 1) = some (.cells #[.int .i64 a, .int .i64 b, .int .i64 c, .int .i64 q] 34 (0, 0)) ∧ Up w w' ∧ ∃ z0 z1 z2 z3 : Value, mblk w' (w.heap.size + 1 + 1) = some (.cells #[z0, z1, z2, z3] 34 (0, 0))) (by kernel_rfl) ⟨by rw [blk_drew]; exact k3, by rw [blk_drew]; exact k4, U0.drew, _, _, _, _, by rw [blk_drew]; exact k6⟩ (fun hHeld => ?_)
  clear k3 k4 k6 U0
  refine takeH (i := 0) (d := (some 7)) (v := ?v1) rfl rfl (by kernel_rfl) (by kernel_rfl) (by kernel_rfl) (fun _ _ _ h => h) (by rfl) ?hy1 (by assumption) ?_
  case hy1 => ((intro w hSw; (try dsimp only at hSw); (try go_split_ands); go_simp); try with_reducible rfl)
  simp only [Act.put, List.setIfInBounds_toArray, List.set_cons_zero, List.set_cons_succ]
  refine takeH (i := 2) (d := (some 9)) (v := ?v2) rfl rfl (by kernel_rfl) (by kernel_rfl) (by kernel_rfl) (fun _ _ _ h => h) (by rfl) ?hy2 (by assumption) ?_
  case hy2 => ((intro w hSw; (try dsimp only at hSw); (try go_split_ands); go_simp); try with_reducible rfl)
  simp only [Act.put, List.setIfInBounds_toArray, List.set_cons_zero, List.set_cons_succ]
  refine takeH (i := 4) (d := (some 11)) (v := ?v3) rfl rfl (by kernel_rfl) (by kernel_rfl) (by kernel_rfl) (fun _ _ _ h => h) (by rfl) ?hy3 (by assumption) ?_
  case hy3 => ((intro w hSw; (try dsimp only at hSw); (try go_split_ands); go_simp); try with_reducible rfl)
  simp only [Act.put, List.setIfInBounds_toArray, List.set_cons_zero, List.set_cons_succ]
  refine takeH (i := 6) (d := (some 13)) (v := ?v4) rfl rfl (by kernel_rfl) (by kernel_rfl) (by kernel_rfl) (fun _ _ _ h => h) (by rfl) ?hy4 (by assumption) ?_
  case hy4 => ((intro w hSw; (try dsimp only at hSw); (try go_split_ands); go_simp); try with_reducible rfl)
  simp only [Act.put, List.setIfInBounds_toArray, List.set_cons_zero, List.set_cons_succ]
  refine takeH (i := 8) (d := (some 15)) (v := ?v5) rfl rfl (by kernel_rfl) (by kernel_rfl) (by kernel_rfl) (fun _ _ _ h => h) (by rfl) ?hy5 (by assumption) ?_
  case hy5 => ((intro w hSw; (try dsimp only at hSw); (try go_split_ands); go_simp); try with_reducible rfl)
  simp only [Act.put, List.setIfInBounds_toArray, List.set_cons_zero, List.set_cons_succ]
  refine takeH (i := 1) (d := (some 8)) (v := ?v6) rfl rfl (by kernel_rfl) (by kernel_rfl) (by kernel_rfl) (fun _ _ _ h => h) (by rfl) ?hy6 (by assumption) ?_
  case hy6 => ((intro w hSw; (try dsimp only at hSw); (try go_split_ands); go_simp); try with_reducible rfl)
  simp only [Act.put, List.setIfInBounds_toArray, List.set_cons_zero, List.set_cons_succ]
  refine takeH (i := 3) (d := (some 10)) (v := ?v7) rfl rfl (by kernel_rfl) (by kernel_rfl) (by kernel_rfl) (fun _ _ _ h => h) (by rfl) ?hy7 (by assumption) ?_
  case hy7 => ((intro w hSw; (try dsimp only at hSw); (try go_split_ands); go_simp); try with_reducible rfl)
  simp only [Act.put, List.setIfInBounds_toArray, List.set_cons_zero, List.set_cons_succ]
  refine takeH (i := 9) (d := (some 16)) (v := ?v8) rfl rfl (by kernel_rfl) (by kernel_rfl) (by kernel_rfl) (fun _ _ _ h => h) (by rfl) ?hy8 (by assumption) ?_
  case hy8 => ((intro w hSw; (try dsimp only at hSw); (try go_split_ands); go_simp); try with_reducible rfl)
  simp only [Act.put, List.setIfInBounds_toArray, List.set_cons_zero, List.set_cons_succ]
  refine wpAnyH_ready (rs := [5]) (by kernel_rfl) (by simp) ?_
  refine AllReadyH.cons rfl (fun K hK => ?_) AllReadyH.nil
  go_simp
  refine (counted_any C _ _ _ _ _ h1 h2 m1 m2).mono ?_
  rintro e w1 ⟨rfl, u1⟩
  go_wp2_with fail
  refine hK.out _ _ (by obtain ⟨i1, i2, i3, z0, z1, z2, z3, i4⟩ := hHeld; exact ⟨u1.blk i1, u1.blk i2, i3.trans u1, z0, z1, z2, z3, u1.blk i4⟩) (fun hHeld => ?_)
  clear hK K
  refine takeH (i := 7) (d := (some 14)) (v := ?v10) rfl rfl (by kernel_rfl) (by kernel_rfl) (by kernel_rfl) (fun _ _ _ h => h) (by rfl) ?hy10 (by assumption) ?_
  case hy10 => ((intro w hSw; (try dsimp only at hSw); (try go_split_ands); go_simp); try with_reducible rfl)
  simp only [Act.put, List.setIfInBounds_toArray, List.set_cons_zero, List.set_cons_succ]
  refine wpAnyH_ready (rs := [10]) (by kernel_rfl) (by simp) ?_
  refine AllReadyH.cons rfl (fun K hK => ?_) AllReadyH.nil
  go_simp
  rw [iw]
  refine (KD.out _).mono ?_
  rintro e w2 ⟨rfl, u2⟩
  go_wp2_with fail
  refine hK.out _ _ (by obtain ⟨i1, i2, i3, z0, z1, z2, z3, i4⟩ := hHeld; exact ⟨u2.blk i1, u2.blk i2, i3.trans u2, z0, z1, z2, z3, u2.blk i4⟩) (fun hHeld => ?_)
  clear hK K
  have hh := hHeld
  obtain ⟨i1, i2, i3, z0, z1, z2, z3, i4⟩ := hh
  have fz := frozB i4
  refine wpAnyH_ready (rs := [11]) (by kernel_rfl) (by simp) ?_
  refine AllReadyH.cons rfl (fun K hK => ?_) AllReadyH.nil
  go_simp
  refine hK.out _ _ ⟨by rw [set4_other _ (by omega)]; exact i1, by rw [set4_other _ (by omega)]; exact i2, i3.set4 (by omega) _ _ _ _, _, _, _, _, set4_same i4 _ _ _ _⟩ (fun hHeld => ?_)
  clear hK K fz
  refine wpAnyH_done (by kernel_rfl) ?_ _
  have y3 := set4_same i4 (.int .i64 R1) (.int .i64 R2) (.int .i64 R3) (.int .i64 q)
  have f3 := cellB y3
  go_wp2
  refine bodyPost_ret (v := rd R1 R2 R3 q) (by simp [results, Try.results30, go_sem, f3]) rfl ⟨rfl, hHeld.2.2.1⟩

end Go.Proofs.Ytghelfbigbdkkaa
