import Derived.Test.YtghelfbigbdkkaaCalG
/- The contracts of dial's dayOf and reading. -/
namespace Go.Proofs.Ytghelfbigbdkkaa
open Go.RowKit

theorem D.lens_zero (h m s : Int) (x : Nat → Int) (n : Nat) (hx : ∀ k, k < n → x k = 0) (k : Nat) (hk : k ≤ n) : D.beg h m s x k = k * (h * m * s) := by
  induction k with
  | zero => rw [D.beg_zero]; omega
  | succ k ih =>
    have e : D.len h m s 0 = h * m * s := by
      have : (h * m - 1) * s = h * m * s - s := by rw [Int.sub_mul]; omega
      simp only [D.len, D.lastM]
      rw [if_neg (by omega), if_neg (by omega)]
      omega
    rw [D.beg_succ, ih (by omega), hx k (by omega), e]
    have : ((k + 1 : Nat) : Int) * (h * m * s) = k * (h * m * s) + h * m * s := by
      rw [Int.natCast_add, Int.add_mul]; omega
    omega

set_option maxRecDepth 10000 in
theorem dayOf_any {cs : Array Value} {h m s : Int} {n : Nat} {x : Nat → Int} (C : Cal cs h m s n x) (hx : ∀ k, k < 10 → 0 ≤ x k ∧ x k ≤ 2) (t : Int) (j : Nat) (w : World) (h1 : 1 ≤ h) (h2 : h ≤ 24) (m1 : 1 ≤ m) (m2 : m ≤ 60) (s1 : 2 ≤ s) (s2 : s ≤ 60) (d2 : n ≤ 10) (hj : j < n)
    (t0 : 0 ≤ t) (t1 : D.beg h m s x j ≤ t) (t2 : t < D.beg h m s x (j + 1)) :
    Calls Try.prog 42 #[.agg cs, .int .i64 t] w fun e w' => e = .returned (.tuple #[.int .i64 j, .int .i64 (t - D.beg h m s x j)]) ∧ Up w w' := by
  have hs := Lib.hid C.size
  obtain ⟨r, hr, hE⟩ := eqDeeds (x 0) (x 1) (x 2) (x 3) (x 4) (x 5) (x 6) (x 7) (x 8) (x 9) (hx 0 (by omega)) (hx 1 (by omega)) (hx 2 (by omega)) (hx 3 (by omega)) (hx 4 (by omega)) (hx 5 (by omega)) (hx 6 (by omega)) (hx 7 (by omega)) (hx 8 (by omega)) (hx 9 (by omega))
  have x0 : cs[5]? = some (.int .i64 (x 0)) := C.cx 0 (by omega)
  have x1 : cs[6]? = some (.int .i64 (x 1)) := C.cx 1 (by omega)
  have x2 : cs[7]? = some (.int .i64 (x 2)) := C.cx 2 (by omega)
  have x3 : cs[8]? = some (.int .i64 (x 3)) := C.cx 3 (by omega)
  have x4 : cs[9]? = some (.int .i64 (x 4)) := C.cx 4 (by omega)
  have x5 : cs[10]? = some (.int .i64 (x 5)) := C.cx 5 (by omega)
  have x6 : cs[11]? = some (.int .i64 (x 6)) := C.cx 6 (by omega)
  have x7 : cs[12]? = some (.int .i64 (x 7)) := C.cx 7 (by omega)
  have x8 : cs[13]? = some (.int .i64 (x 8)) := C.cx 8 (by omega)
  have x9 : cs[14]? = some (.int .i64 (x 9)) := C.cx 9 (by omega)
  have DO := Lib.hid (fun g k r w a b c d => dayOf1_any C t j (w := w) (k := k) (r := r) (g := g) (B := w.heap.size) (F := w.heap.size) h1 h2 m1 m2 s1 s2 d2 hj t0 t1 t2 a b c d)
  clear DO
  cases r with
  | true =>
    have hz := hr.1 rfl
    have xz : ∀ k, k < n → x k = 0 := by
      intro k hk
      have : k = 0 ∨ k = 1 ∨ k = 2 ∨ k = 3 ∨ k = 4 ∨ k = 5 ∨ k = 6 ∨ k = 7 ∨ k = 8 ∨ k = 9 := by omega
      obtain ⟨z0, z1, z2, z3, z4, z5, z6, z7, z8, z9⟩ := hz
      rcases this with rfl | rfl | rfl | rfl | rfl | rfl | rfl | rfl | rfl | rfl <;> assumption
    have l1 := D.len_bd h m s (x 0) h1 h2 m1 m2 s1 s2
    have bj := D.lens_zero h m s x n xz j (by omega)
    have bj1 := D.lens_zero h m s x n xz (j + 1) (by omega)
    have bl : D.len h m s (x 0) = h * m * s := by
      have a := D.beg_succ h m s x 0
      have b := D.lens_zero h m s x n xz 1 (by omega)
      rw [D.beg_zero] at a
      simp only [Nat.zero_add] at a
      rw [b] at a
      omega
    rw [bj] at t1
    rw [bj1] at t2
    have hq : t / D.len h m s (x 0) = j ∧ t % D.len h m s (x 0) = t - D.beg h m s x j := by
      rw [bl, bj]
      have : ((j + 1 : Nat) : Int) * (h * m * s) = j * (h * m * s) + h * m * s := by rw [Int.natCast_add, Int.add_mul]; omega
      exact (Int.ediv_emod_unique (a := t) (b := h * m * s) (r := t - j * (h * m * s)) (q := j) (by omega)).2 ⟨by rw [Int.mul_comm]; omega, by omega, by omega⟩
    have HQ := Lib.hid hq
    have k0 : (0 : Int) ≤ D.len h m s (x 0) := by omega
    have k1 : ¬ D.len h m s (x 0) = 0 := by omega
    have l3 : 1 ≤ D.len h m s (x 0) := by omega
    have tb : t ≤ 900000 := by
      have := D.beg_bd h m s x h1 h2 m1 m2 s1 s2 (j + 1)
      rw [bj1] at this; omega
    clear hq bj bj1 bl xz hz hr t1 t2 hx l1
    go_enter Try.func42, Try.ntmps42
    go_wp2_with fail
    refine wp_region_held_drew (S := fun w' => mblk w' w.heap.size = some (.cells cs 62 (0, 0)) ∧ Up w w') (by kernel_rfl) ⟨by rw [blk_drew, blk_new _ _ _ rfl], ((Up.refl w).alloc _).drew⟩ (fun hHeld => ?_)
    refine takeH (i := 0) (d := (some 11)) (v := ?v1) rfl rfl (by kernel_rfl) (by kernel_rfl) (by kernel_rfl) (fun _ _ _ h => h) (by rfl) ?hy1 (by assumption) ?_
    case hy1 => ((intro w hSw; (try dsimp only at hSw); (try go_split_ands); go_simp); try with_reducible rfl)
    simp only [Act.put, List.setIfInBounds_toArray, List.set_cons_zero, List.set_cons_succ]
    refine takeH (i := 1) (d := (some 12)) (v := ?v2) rfl rfl (by kernel_rfl) (by kernel_rfl) (by kernel_rfl) (fun _ _ _ h => h) (by rfl) ?hy2 (by assumption) ?_
    case hy2 => ((intro w hSw; (try dsimp only at hSw); (try go_split_ands); go_simp); try with_reducible rfl)
    simp only [Act.put, List.setIfInBounds_toArray, List.set_cons_zero, List.set_cons_succ]
    refine takeH (i := 4) (d := (some 15)) (v := ?v3) rfl rfl (by kernel_rfl) (by kernel_rfl) (by kernel_rfl) (fun _ _ _ h => h) (by rfl) ?hy3 (by assumption) ?_
    case hy3 => ((intro w hSw; (try dsimp only at hSw); (try go_split_ands); go_simp); try with_reducible rfl)
    simp only [Act.put, List.setIfInBounds_toArray, List.set_cons_zero, List.set_cons_succ]
    refine takeH (i := 5) (d := (some 16)) (v := ?v4) rfl rfl (by kernel_rfl) (by kernel_rfl) (by kernel_rfl) (fun _ _ _ h => h) (by rfl) ?hy4 (by assumption) ?_
    case hy4 => ((intro w hSw; (try dsimp only at hSw); (try go_split_ands); go_simp); try with_reducible rfl)
    simp only [Act.put, List.setIfInBounds_toArray, List.set_cons_zero, List.set_cons_succ]
    refine wpAnyH_ready (rs := [2]) (by kernel_rfl) (by simp) ?_
    refine AllReadyH.cons rfl (fun K hK => ?_) AllReadyH.nil
    go_simp
    refine (length_any C 0 _ (by omega) h1 h2 m1 m2 s1 s2).mono ?_
    rintro e w2 ⟨rfl, u2⟩
    go_wp2_with fail
    refine hK.out _ _ ⟨u2.blk hHeld.1, hHeld.2.trans u2⟩ (fun hHeld => ?_)
    clear hK K
    refine takeH (i := 3) (d := (some 14)) (v := ?v6) rfl rfl (by kernel_rfl) (by kernel_rfl) (by kernel_rfl) (fun _ _ _ h => h) (by rfl) ?hy6 (by assumption) ?_
    case hy6 => ((intro w hSw; (try dsimp only at hSw); (try go_split_ands); go_simp); try with_reducible rfl)
    simp only [Act.put, List.setIfInBounds_toArray, List.set_cons_zero, List.set_cons_succ]
    refine wpAnyH_ready (rs := [6]) (by kernel_rfl) (by simp) ?_
    refine AllReadyH.cons rfl (fun K hK => ?_) AllReadyH.nil
    go_simp
    refine (length_any C 0 _ (by omega) h1 h2 m1 m2 s1 s2).mono ?_
    rintro e w2 ⟨rfl, u2⟩
    go_wp2_with fail
    refine hK.out _ _ ⟨u2.blk hHeld.1, hHeld.2.trans u2⟩ (fun hHeld => ?_)
    clear hK K
    refine takeH (i := 7) (d := (some 18)) (v := ?v8) rfl rfl (by kernel_rfl) (by kernel_rfl) (by kernel_rfl) (fun _ _ _ h => h) (by rfl) ?hy8 (by assumption) ?_
    case hy8 => ((intro w hSw; (try dsimp only at hSw); (try go_split_ands); go_simp); try with_reducible rfl)
    simp only [Act.put, List.setIfInBounds_toArray, List.set_cons_zero, List.set_cons_succ]
    refine takeH (i := 8) (d := (some 4)) (v := ?v9) rfl rfl (by kernel_rfl) (by kernel_rfl) (by kernel_rfl) (fun _ _ _ h => h) (by rfl) ?hy9 (by assumption) ?_
    case hy9 => ((intro w hSw; (try dsimp only at hSw); (try go_split_ands); go_simp); try with_reducible rfl)
    simp only [Act.put, List.setIfInBounds_toArray, List.set_cons_zero, List.set_cons_succ]
    refine takeH (i := 9) (d := (some 5)) (v := ?v10) rfl rfl (by kernel_rfl) (by kernel_rfl) (by kernel_rfl) (fun _ _ _ h => h) (by rfl) ?hy10 (by assumption) ?_
    case hy10 => ((intro w hSw; (try dsimp only at hSw); (try go_split_ands); go_simp); try with_reducible rfl)
    simp only [Act.put, List.setIfInBounds_toArray, List.set_cons_zero, List.set_cons_succ]
    refine wpAnyH_done (by kernel_rfl) ?_ _
    go_wp2
    go_ret2
    refine ⟨?_, hHeld.2⟩
    show Ending.returned (.tuple #[.int .i64 (IntKind.i64.wrap (t.tdiv (D.len h m s (x 0)))), .int .i64 (t.tmod (D.len h m s (x 0)))]) = _
    rw [Int.tdiv_eq_ediv_of_nonneg t0, Int.tmod_eq_emod_of_nonneg t0, HQ.out.1, HQ.out.2, IntWalk.i64_in _ (by omega)]
  | false =>
    clear hr hx
    go_enter Try.func42, Try.ntmps42
    go_wp2_with fail
    refine (dayOf1_any C t j w.heap.size (w.heap.size + 1) h1 h2 m1 m2 s1 s2 d2 hj t0 t1 t2 j 0 t _ (by omega) (Lib.hid (by rw [D.beg_zero]; omega)) ?_ ?_).mono ?_
    · rw [blk_past _ _ _ (by simp), blk_new _ _ _ rfl]
    · rw [blk_new _ _ _ (by simp)]
    rintro e w1 ⟨rfl, u1⟩
    go_wp2
    go_ret2
    exact ⟨rfl, (((Up.refl w).alloc _).alloc _).trans u1⟩

set_option maxRecDepth 10000 in
set_option maxHeartbeats 4000000 in
theorem reading_any {cs : Array Value} {h m s : Int} {n : Nat} {x : Nat → Int} (C : Cal cs h m s n x) (hx : ∀ k, k < 10 → 0 ≤ x k ∧ x k ≤ 2) (t : Int) (j : Nat) (w : World) (h1 : 1 ≤ h) (h2 : h ≤ 24) (m1 : 1 ≤ m) (m2 : m ≤ 60) (s1 : 2 ≤ s) (s2 : s ≤ 60) (d2 : n ≤ 10) (hj : j < n)
    (t0 : 0 ≤ t) (t1 : D.beg h m s x j ≤ t) (t2 : t < D.beg h m s x (j + 1)) (r q : Int) (hr : Hid (t - D.beg h m s x j = r)) (hq : Hid (min (r / s) (h * m - 1) = q)) :
    Calls Try.prog 25 #[.agg cs, .int .i64 t] w fun e w' => e = .returned (rd j (q / m) (q % m) (r - q * s)) ∧ Up w w' := by
  have hs := Lib.hid C.size
  have e2 := C.c2
  obtain ⟨a1, a2⟩ := D.mul_bd h m h1 h2 m1 m2
  obtain ⟨l1, l2⟩ := D.len_bd h m s (x j) h1 h2 m1 m2 s1 s2
  have b := D.beg_succ h m s x j
  have r1 : 0 ≤ r := by have := hr.out; omega
  have r2 : r ≤ 86401 := by have := hr.out; omega
  have q1 : 0 ≤ q := by
    have := Int.ediv_nonneg r1 (by omega : 0 ≤ s)
    have := hq.out; omega
  have q2 : q ≤ h * m - 1 := by have := hq.out; omega
  have q3 : 0 ≤ q * s ∧ q * s ≤ 86400 := D.mul_bd2 q s q1 (by omega) (by omega) s2
  have g1 : 0 ≤ (j : Int) * (h * m) ∧ (j : Int) * (h * m) ≤ 14400 := by
    have := Int.mul_nonneg (by omega : 0 ≤ (j : Int)) (by omega : 0 ≤ h * m)
    have := Int.mul_le_mul (by omega : (j : Int) ≤ 10) a2 (by omega) (by omega)
    omega
  have DV : ∀ w, Calls Try.prog 43 #[.agg cs, .int .i64 (IntKind.i64.wrap (IntKind.i64.wrap (j * (h * m)) + q)), .int .i64 (IntKind.i64.wrap (r - IntKind.i64.wrap (q * s)))] w fun e w' => e = .returned (rd j (q / m) (q % m) (r - q * s)) ∧ Up w w' := fun w => by
    rw [IntWalk.i64_in (q * s) (by omega), IntWalk.i64_in (r - q * s) (by omega), IntWalk.i64_in ((j : Int) * (h * m)) (by omega), IntWalk.i64_in _ (by omega)]
    refine (divided_any C ((j : Int) * (h * m) + q) (r - q * s) w h1 h2 m1 m2 (by omega) (by omega)).mono fun e w' ⟨he, hw⟩ => ⟨?_, hw⟩
    have u := (Int.ediv_emod_unique (a := (j : Int) * (h * m) + q) (b := h * m) (r := q) (q := j) (by omega)).2 ⟨by rw [Int.mul_comm]; omega, by omega, by omega⟩
    rw [he, u.1, u.2]
  have HD := Lib.hid DV
  have DO := dayOf_any C hx t j (h1 := h1) (h2 := h2) (m1 := m1) (m2 := m2) (s1 := s1) (s2 := s2) (d2 := d2) (hj := hj) (t0 := t0) (t1 := t1) (t2 := t2)
  rw [hr.out] at DO
  have HO := Lib.hid DO
  have hM : ∀ (ts : Array TypeId) (t' : TypeId) (w : World), (Builtin.min_ ts t' #[.int .i64 (IntKind.i64.wrap (r.tdiv s)), .int .i64 (IntKind.i64.wrap (h * m - 1))]).run Try.prog w = .ok (.int .i64 q) w := fun ts t' w => by
    have rs := Int.ediv_nonneg r1 (by omega : 0 ≤ s)
    have rs2 : r / s ≤ r := Int.ediv_le_self _ r1
    have e : (if IntKind.i64.wrap (h * m - 1) < IntKind.i64.wrap (r.tdiv s) then IntKind.i64.wrap (h * m - 1) else IntKind.i64.wrap (r.tdiv s)) = q := by
      rw [Int.tdiv_eq_ediv_of_nonneg r1, IntWalk.i64_in (r / s) (by omega), IntWalk.i64_in _ (by omega)]
      have := hq.out
      split <;> omega
    rw [run_min_int2, e]
  have s0 : ¬ s = 0 := by omega
  clear DV DO b t1 t2 l1 l2 hx
  go_enter Try.func25, Try.ntmps25
  go_wp2_with fail
  refine (HO.out _).mono ?_
  rintro e w1 ⟨rfl, u1⟩
  have y1 := u1.blk (b := w.heap.size) (o := .cells cs 62) (by rw [blk_past _ _ _ (by simp), blk_new _ _ _ rfl])
  have y2 := u1.blk (b := w.heap.size + 1) (o := .cells #[.int .i64 0, .int .i64 0, .int .i64 0, .int .i64 0] 34) (by rw [blk_new _ _ _ (by simp)])
  have U1 := (((Up.refl w).alloc _).alloc _).trans u1
  clear u1
  go_wp2_with fail
  refine wp_region_held_drew (S := fun w' => mblk w' w.heap.size = some (.cells cs 62 (0, 0)) ∧ mblk w' (w.heap.size + 1) = some (.cells #[.int .i64 0, .int .i64 0, .int .i64 0, .int .i64 0] 34 (0, 0)) ∧ Up w w') (by kernel_rfl) ⟨by rw [blk_drew]; exact y1, by rw [blk_drew]; exact y2, U1.drew⟩ (fun hHeld => ?_)
  clear y1 y2 U1
  refine takeH (i := 0) (d := (some 14)) (v := ?v11) rfl rfl (by kernel_rfl) (by kernel_rfl) (by kernel_rfl) (fun _ _ _ h => h) (by rfl) ?hy11 (by assumption) ?_
  case hy11 => ((intro w hSw; (try dsimp only at hSw); (try go_split_ands); go_simp); try with_reducible rfl)
  simp only [Act.put, List.setIfInBounds_toArray, List.set_cons_zero, List.set_cons_succ]
  refine takeH (i := 1) (d := (some 15)) (v := ?v12) rfl rfl (by kernel_rfl) (by kernel_rfl) (by kernel_rfl) (fun _ _ _ h => h) (by rfl) ?hy12 (by assumption) ?_
  case hy12 => ((intro w hSw; (try dsimp only at hSw); (try go_split_ands); go_simp); try with_reducible rfl)
  simp only [Act.put, List.setIfInBounds_toArray, List.set_cons_zero, List.set_cons_succ]
  refine takeH (i := 2) (d := (some 16)) (v := ?v13) rfl rfl (by kernel_rfl) (by kernel_rfl) (by kernel_rfl) (fun _ _ _ h => h) (by rfl) ?hy13 (by assumption) ?_
  case hy13 => ((intro w hSw; (try dsimp only at hSw); (try go_split_ands); go_simp); try with_reducible rfl)
  simp only [Act.put, List.setIfInBounds_toArray, List.set_cons_zero, List.set_cons_succ]
  refine takeH (i := 3) (d := (some 17)) (v := ?v14) rfl rfl (by kernel_rfl) (by kernel_rfl) (by kernel_rfl) (fun _ _ _ h => h) (by rfl) ?hy14 (by assumption) ?_
  case hy14 => ((intro w hSw; (try dsimp only at hSw); (try go_split_ands); go_simp); try with_reducible rfl)
  simp only [Act.put, List.setIfInBounds_toArray, List.set_cons_zero, List.set_cons_succ]
  refine takeH (i := 4) (d := (some 18)) (v := ?v15) rfl rfl (by kernel_rfl) (by kernel_rfl) (by kernel_rfl) (fun _ _ _ h => h) (by rfl) ?hy15 (by assumption) ?_
  case hy15 => ((intro w hSw; (try dsimp only at hSw); (try go_split_ands); go_simp); try with_reducible rfl)
  simp only [Act.put, List.setIfInBounds_toArray, List.set_cons_zero, List.set_cons_succ]
  refine takeH (i := 5) (d := (some 19)) (v := ?v16) rfl rfl (by kernel_rfl) (by kernel_rfl) (by kernel_rfl) (fun _ _ _ h => h) (by rfl) ?hy16 (by assumption) ?_
  case hy16 => ((intro w hSw; (try dsimp only at hSw); (try go_split_ands); go_simp); try with_reducible rfl)
  simp only [Act.put, List.setIfInBounds_toArray, List.set_cons_zero, List.set_cons_succ]
  refine wpAnyH_ready (rs := [6]) (by kernel_rfl) (by simp) ?_
  refine AllReadyH.cons rfl (fun K hK => ?_) AllReadyH.nil
  go_simp
  refine (mod_any C _ h1 h2 m1 m2).mono ?_
  rintro e w2 ⟨rfl, u2⟩
  go_wp2_with fail
  refine hK.out _ _ ⟨u2.blk hHeld.1, u2.blk hHeld.2.1, hHeld.2.2.trans u2⟩ (fun hHeld => ?_)
  clear hK K
  refine takeH (i := 7) (d := (some 21)) (v := ?v18) rfl rfl (by kernel_rfl) (by kernel_rfl) (by kernel_rfl) (fun _ _ _ h => h) (by rfl) ?hy18 (by assumption) ?_
  case hy18 => ((intro w hSw; (try dsimp only at hSw); (try go_split_ands); go_simp); try with_reducible rfl)
  simp only [Act.put, List.setIfInBounds_toArray, List.set_cons_zero, List.set_cons_succ]
  refine takeH (i := 8) (d := (some 22)) (v := .int .i64 q) rfl rfl (by kernel_rfl) (by kernel_rfl) (by kernel_rfl) (fun _ _ _ h => h) (by rfl) ?hymin (by assumption) ?_
  case hymin => ((intro w hSw; (try dsimp only at hSw); go_simp); try with_reducible rfl)
  simp only [Act.put, List.setIfInBounds_toArray, List.set_cons_zero, List.set_cons_succ]
  refine takeH (i := 9) (d := (some 7)) (v := ?v19) rfl rfl (by kernel_rfl) (by kernel_rfl) (by kernel_rfl) (fun _ _ _ h => h) (by rfl) ?hy19 (by assumption) ?_
  case hy19 => ((intro w hSw; (try dsimp only at hSw); (try go_split_ands); go_simp); try with_reducible rfl)
  simp only [Act.put, List.setIfInBounds_toArray, List.set_cons_zero, List.set_cons_succ]
  refine wpAnyH_done (by kernel_rfl) ?_ _
  go_wp2_with fail
  refine wp_region_held_drew (S := fun w' => mblk w' w.heap.size = some (.cells cs 62 (0, 0)) ∧ Up w w' ∧ ∃ z0 z1 z2 z3 : Value, mblk w' (w.heap.size + 1) = some (.cells #[z0, z1, z2, z3] 34 (0, 0))) (by kernel_rfl) ⟨by rw [blk_drew]; exact hHeld.1, hHeld.2.2.drew, _, _, _, _, by rw [blk_drew]; exact hHeld.2.1⟩ (fun hHeld => ?_)
  refine takeH (i := 0) (d := (some 23)) (v := ?v20) rfl rfl (by kernel_rfl) (by kernel_rfl) (by kernel_rfl) (fun _ _ _ h => h) (by rfl) ?hy20 (by assumption) ?_
  case hy20 => ((intro w hSw; (try dsimp only at hSw); (try go_split_ands); go_simp); try with_reducible rfl)
  simp only [Act.put, List.setIfInBounds_toArray, List.set_cons_zero, List.set_cons_succ]
  refine takeH (i := 1) (d := (some 24)) (v := ?v21) rfl rfl (by kernel_rfl) (by kernel_rfl) (by kernel_rfl) (fun _ _ _ h => h) (by rfl) ?hy21 (by assumption) ?_
  case hy21 => ((intro w hSw; (try dsimp only at hSw); (try go_split_ands); go_simp); try with_reducible rfl)
  simp only [Act.put, List.setIfInBounds_toArray, List.set_cons_zero, List.set_cons_succ]
  refine takeH (i := 2) (d := (some 25)) (v := ?v22) rfl rfl (by kernel_rfl) (by kernel_rfl) (by kernel_rfl) (fun _ _ _ h => h) (by rfl) ?hy22 (by assumption) ?_
  case hy22 => ((intro w hSw; (try dsimp only at hSw); (try go_split_ands); go_simp); try with_reducible rfl)
  simp only [Act.put, List.setIfInBounds_toArray, List.set_cons_zero, List.set_cons_succ]
  refine takeH (i := 5) (d := (some 28)) (v := ?v23) rfl rfl (by kernel_rfl) (by kernel_rfl) (by kernel_rfl) (fun _ _ _ h => h) (by rfl) ?hy23 (by assumption) ?_
  case hy23 => ((intro w hSw; (try dsimp only at hSw); (try go_split_ands); go_simp); try with_reducible rfl)
  simp only [Act.put, List.setIfInBounds_toArray, List.set_cons_zero, List.set_cons_succ]
  refine takeH (i := 7) (d := (some 30)) (v := ?v24) rfl rfl (by kernel_rfl) (by kernel_rfl) (by kernel_rfl) (fun _ _ _ h => h) (by rfl) ?hy24 (by assumption) ?_
  case hy24 => ((intro w hSw; (try dsimp only at hSw); (try go_split_ands); go_simp); try with_reducible rfl)
  simp only [Act.put, List.setIfInBounds_toArray, List.set_cons_zero, List.set_cons_succ]
  refine takeH (i := 8) (d := (some 31)) (v := ?v25) rfl rfl (by kernel_rfl) (by kernel_rfl) (by kernel_rfl) (fun _ _ _ h => h) (by rfl) ?hy25 (by assumption) ?_
  case hy25 => ((intro w hSw; (try dsimp only at hSw); (try go_split_ands); go_simp); try with_reducible rfl)
  simp only [Act.put, List.setIfInBounds_toArray, List.set_cons_zero, List.set_cons_succ]
  refine takeH (i := 9) (d := (some 32)) (v := ?v26) rfl rfl (by kernel_rfl) (by kernel_rfl) (by kernel_rfl) (fun _ _ _ h => h) (by rfl) ?hy26 (by assumption) ?_
  case hy26 => ((intro w hSw; (try dsimp only at hSw); (try go_split_ands); go_simp); try with_reducible rfl)
  simp only [Act.put, List.setIfInBounds_toArray, List.set_cons_zero, List.set_cons_succ]
  refine takeH (i := 10) (d := (some 33)) (v := ?v27) rfl rfl (by kernel_rfl) (by kernel_rfl) (by kernel_rfl) (fun _ _ _ h => h) (by rfl) ?hy27 (by assumption) ?_
  case hy27 => ((intro w hSw; (try dsimp only at hSw); (try go_split_ands); go_simp); try with_reducible rfl)
  simp only [Act.put, List.setIfInBounds_toArray, List.set_cons_zero, List.set_cons_succ]
  refine takeH (i := 11) (d := (some 34)) (v := ?v28) rfl rfl (by kernel_rfl) (by kernel_rfl) (by kernel_rfl) (fun _ _ _ h => h) (by rfl) ?hy28 (by assumption) ?_
  case hy28 => ((intro w hSw; (try dsimp only at hSw); (try go_split_ands); go_simp); try with_reducible rfl)
  simp only [Act.put, List.setIfInBounds_toArray, List.set_cons_zero, List.set_cons_succ]
  refine takeH (i := 12) (d := (some 35)) (v := ?v29) rfl rfl (by kernel_rfl) (by kernel_rfl) (by kernel_rfl) (fun _ _ _ h => h) (by rfl) ?hy29 (by assumption) ?_
  case hy29 => ((intro w hSw; (try dsimp only at hSw); (try go_split_ands); go_simp); try with_reducible rfl)
  simp only [Act.put, List.setIfInBounds_toArray, List.set_cons_zero, List.set_cons_succ]
  refine takeH (i := 13) (d := (some 36)) (v := ?v30) rfl rfl (by kernel_rfl) (by kernel_rfl) (by kernel_rfl) (fun _ _ _ h => h) (by rfl) ?hy30 (by assumption) ?_
  case hy30 => ((intro w hSw; (try dsimp only at hSw); (try go_split_ands); go_simp); try with_reducible rfl)
  simp only [Act.put, List.setIfInBounds_toArray, List.set_cons_zero, List.set_cons_succ]
  refine wpAnyH_ready (rs := [3]) (by kernel_rfl) (by simp) ?_
  refine AllReadyH.cons rfl (fun K hK => ?_) AllReadyH.nil
  go_simp
  refine (mod_any C _ h1 h2 m1 m2).mono ?_
  rintro e w3 ⟨rfl, u3⟩
  go_wp2_with fail
  refine hK.out _ _ (by obtain ⟨i1, i2, z0, z1, z2, z3, i3⟩ := hHeld; exact ⟨u3.blk i1, i2.trans u3, z0, z1, z2, z3, u3.blk i3⟩) (fun hHeld => ?_)
  clear hK K
  refine takeH (i := 4) (d := (some 27)) (v := ?v32) rfl rfl (by kernel_rfl) (by kernel_rfl) (by kernel_rfl) (fun _ _ _ h => h) (by rfl) ?hy32 (by assumption) ?_
  case hy32 => ((intro w hSw; (try dsimp only at hSw); (try go_split_ands); go_simp); try with_reducible rfl)
  simp only [Act.put, List.setIfInBounds_toArray, List.set_cons_zero, List.set_cons_succ]
  refine takeH (i := 6) (d := (some 29)) (v := ?v33) rfl rfl (by kernel_rfl) (by kernel_rfl) (by kernel_rfl) (fun _ _ _ h => h) (by rfl) ?hy33 (by assumption) ?_
  case hy33 => ((intro w hSw; (try dsimp only at hSw); (try go_split_ands); go_simp); try with_reducible rfl)
  simp only [Act.put, List.setIfInBounds_toArray, List.set_cons_zero, List.set_cons_succ]
  refine wpAnyH_ready (rs := [14]) (by kernel_rfl) (by simp) ?_
  refine AllReadyH.cons rfl (fun K hK => ?_) AllReadyH.nil
  go_simp
  refine (HD.out _).mono ?_
  rintro e w4 ⟨rfl, u4⟩
  go_wp2_with fail
  refine hK.out _ _ (by obtain ⟨i1, i2, z0, z1, z2, z3, i3⟩ := hHeld; exact ⟨u4.blk i1, i2.trans u4, z0, z1, z2, z3, u4.blk i3⟩) (fun hHeld => ?_)
  clear hK K
  have hh := hHeld
  obtain ⟨i1, i2, z0, z1, z2, z3, i3⟩ := hh
  have fz := frozB i3
  refine wpAnyH_ready (rs := [15]) (by kernel_rfl) (by simp) ?_
  refine AllReadyH.cons rfl (fun K hK => ?_) AllReadyH.nil
  go_simp
  refine hK.out _ _ ⟨by rw [set4_other _ (by omega)]; exact i1, i2.set4 (by omega) _ _ _ _, _, _, _, _, set4_same i3 _ _ _ _⟩ (fun hHeld => ?_)
  clear hK K fz
  refine wpAnyH_done (by kernel_rfl) ?_ _
  have y3 := set4_same i3 (.int .i64 j) (.int .i64 (q / m)) (.int .i64 (q % m)) (.int .i64 (r - q * s))
  have f3 := cellB y3
  go_wp2
  refine bodyPost_ret (v := rd j (q / m) (q % m) (r - q * s)) (by simp [results, Try.results25, go_sem, f3]) rfl ⟨rfl, hHeld.2.1⟩

end Go.Proofs.Ytghelfbigbdkkaa
