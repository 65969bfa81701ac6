import Derived.Test.YtfmnfingliflkaaRefJ
import Derived.Test.YtfmnfingliflkaaTwd
/- The contract of the reference's Twice. -/
namespace Go.Proofs.Ytfmnfingliflkaa
open Go.RowKit
attribute [local go_sem] cell_CAL cell_TWN

theorem D.Dup.none {E : Nat → Prop} (k : Nat) : ∀ c, (∀ i, i < k → ¬ E i) → D.Dup E k c → c = 0 := by
  induction k with
  | zero => intro c _ h; exact h
  | succ k ih =>
    intro c hn h
    rcases h with ⟨e, _⟩ | ⟨_, h⟩
    · exact absurd e (hn k (by omega))
    · exact ih c (fun i hi => hn i (by omega)) h
theorem D.first_lt {l : List Int} (hs : l.Pairwise (· < ·)) {k : Int} (hk : k ∈ l) : 0 < l.length ∧ (l.getD 0 0 < k ↔ ∃ j ∈ l, j < k) := by
  cases l with
  | nil => cases hk
  | cons a l =>
    rw [List.pairwise_cons] at hs
    refine ⟨by simp, ⟨fun h => ⟨a, by simp, h⟩, fun ⟨j, hj, h⟩ => ?_⟩⟩
    rcases List.mem_cons.1 hj with rfl | hj
    · exact h
    · have := hs.1 j hj
      show a < k
      omega
section
variable {h m s : Int} {N : Nat} {a : Option Addr} {n c : Nat} {L : List (Int × Bool)} {ah : Int} {a' : Option Addr} {n' c' : Nat} {M : List (Int × Int)} {w : World}
theorem r_Twice_tick (A : CalArg w a n c L) (B : TownArg w a' n' c' M) (hv : D.valid h m s N L = true) (ht : D.townOk (D.beg h m s (D.deeds L L.length) N) ah M = true) (k : Nat) (kT : (k : Int) < D.beg h m s (D.deeds L L.length) N) :
    ∃ (R1 R2 R3 R4 kk LA LB LC : Int) (l : List Int), (∀ w', Up w w' → Calls Try.prog 64 #[.agg #[.int .i64 h, .int .i64 m, .int .i64 s, .int .i64 N, .slice a n c], .int .i64 k] w' fun e w'' => e = .returned (rd R1 R2 R3 R4) ∧ Up w' w'') ∧ (∀ w', Up w w' → Calls Try.prog 73 #[.agg #[.int .i64 ah, .slice a' n' c'], .int .i64 k] w' fun e w'' => e = .returned (.int .i64 kk) ∧ Up w' w'') ∧ (∀ w', Calls Try.prog 72 #[.agg #[.int .i64 h, .int .i64 m, .int .i64 s, .int .i64 N, .slice a n c], rd R1 R2 R3 R4, .int .i64 kk] w' fun e w'' => e = .returned (rd LA LB LC R4) ∧ Up w' w'') ∧ (∀ w', Up w w' → Calls Try.prog 75 #[.agg #[.int .i64 h, .int .i64 m, .int .i64 s, .int .i64 N, .slice a n c], .agg #[.int .i64 ah, .slice a' n' c'], rd LA LB LC R4] w' fun e w'' => ∃ v, e = .returned v ∧ Up w' w'' ∧ D.Sl w'' v l) ∧ 0 < l.length ∧ (l.getD 0 0 < k ↔ D.again (D.locP h m s (D.deeds L L.length) N ah M) (D.locS h m s (D.deeds L L.length) N) k) ∧ (M.length = 0 → ¬ D.again (D.locP h m s (D.deeds L L.length) N ah M) (D.locS h m s (D.deeds L L.length) N) k) := by
  obtain ⟨h1, h2, m1, m2, s1, s2, d1, d2⟩ := D.valid_bd hv
  have t0 : (0 : Int) ≤ k := by omega
  obtain ⟨u, kk, e1, e2, e3, u0, u1, k0, k1, e4, e5, e6⟩ := D.local_is h1 h2 m1 m2 s1 (by omega) ht t0 kT
  have hl := B.len
  have ml := (D.town_bd ht).2.2.1
  have hmem := D.ticks_mem h1 h2 m1 m2 s1 s2 (by omega) ht ((u + kk) / (h * m)) ((u + kk) % (h * m) / m) ((u + kk) % (h * m) % m) (D.rS h m s (D.deeds L L.length) N k)
  have hin := (hmem k).2 ⟨t0, kT, by rw [e3], by rw [e3], by rw [e3], rfl⟩
  have hpair := D.ticks_pair h1 h2 m1 m2 s1 s2 (by omega) ht ((u + kk) / (h * m)) ((u + kk) % (h * m) / m) ((u + kk) % (h * m) % m) (D.rS h m s (D.deeds L L.length) N k)
  have hlen := D.ticks_len (h := h) (m := m) (s := s) (n := N) (x := D.deeds L L.length) (ah := ah) (M := M) ((u + kk) / (h * m)) ((u + kk) % (h * m) / m) ((u + kk) % (h * m) % m) (D.rS h m s (D.deeds L L.length) N k)
  have hp : D.prop h m ((u + kk) / (h * m)) ((u + kk) % (h * m) / m) ((u + kk) % (h * m) % m) = true := by
    cases hp : D.prop h m ((u + kk) / (h * m)) ((u + kk) % (h * m) / m) ((u + kk) % (h * m) % m)
    · rw [D.prop_mem h1 h2 m1 m2 s1 s2 (by omega) ht _ _ _ _ hp] at hin
      cases hin
    · rfl
  obtain ⟨fl1, fl2⟩ := D.first_lt hpair hin
  obtain ⟨b1, b2, b3, b4⟩ := D.parts_bd u h1 h2 m1 m2
  have f := Int.emod_add_mul_ediv u (h * m)
  obtain ⟨P1, P2⟩ := D.mul_bd h m h1 h2 m1 m2
  have A1 : 0 ≤ u / (h * m) := Int.ediv_nonneg u0 (by omega)
  have A2 : u / (h * m) ≤ u := Int.ediv_le_self _ u0
  have f3 := Int.emod_add_mul_ediv (u % (h * m)) m
  have eu : u / (h * m) * (h * m) + (u % (h * m) / m * m + u % (h * m) % m) = u := by rw [Int.mul_comm (u / (h * m)), Int.mul_comm (u % (h * m) / m)]; omega
  have hag : (∃ j ∈ D.ticksV h m s N (D.deeds L L.length) ah M ((u + kk) / (h * m)) ((u + kk) % (h * m) / m) ((u + kk) % (h * m) % m) (D.rS h m s (D.deeds L L.length) N k), j < (k : Int)) ↔ D.again (D.locP h m s (D.deeds L L.length) N ah M) (D.locS h m s (D.deeds L L.length) N) k := by
    constructor
    · rintro ⟨j, hj, jk⟩
      obtain ⟨j0, jT, x1, x2, x3, x4⟩ := (hmem j).1 hj
      obtain ⟨i, rfl⟩ : ∃ i : Nat, j = i := ⟨j.toNat, by omega⟩
      refine ⟨i, by omega, ?_, x4⟩
      unfold D.locP
      rw [x1, x2, x3, e3]
    · rintro ⟨i, ik, hP, hS⟩
      unfold D.locP at hP
      injection hP with x1 x2
      injection x2 with x2 x3
      rw [e3] at x1 x2 x3
      exact ⟨i, (hmem i).2 ⟨by omega, by omega, x1, x2, x3, hS⟩, by omega⟩
  refine ⟨u / (h * m), u % (h * m) / m, u % (h * m) % m, D.rS h m s (D.deeds L L.length) N k, kk, (u + kk) / (h * m), (u + kk) % (h * m) / m, (u + kk) % (h * m) % m, _, fun w' v => ?_, fun w' v => ?_, fun w' => ?_, fun w' v => r_ticks_yes (A.up v) (B.up v) hv ht _ _ _ _ hp, fl1, fl2.trans hag, fun hM hA => ?_⟩
  · have K := r_reading_any (c := c) (A.up v) hv k t0 kT
    rw [e4, e5, e6] at K
    exact K
  · have K := r_ahead_any (c' := c') (ah := ah) (B.up v) (by omega) k
    rw [show D.ahAt ah M k n' = kk by rw [hl]; exact e2] at K
    exact K
  · have K := r_moved_any (s := s) (d := N) (a := a) (n := n) (c := c) (w := w') h1 h2 m1 m2 (u / (h * m)) (u % (h * m) / m) (u % (h * m) % m) (D.rS h m s (D.deeds L L.length) N k) kk (by omega) (by omega) b1 b2 b3 b4 k0 k1
    rw [eu] at K
    exact K
  · obtain ⟨j, hj, jk⟩ := hag.2 hA
    rw [hM] at hlen
    revert hj hin hlen
    generalize D.ticksV h m s N (D.deeds L L.length) ah M ((u + kk) / (h * m)) ((u + kk) % (h * m) / m) ((u + kk) % (h * m) % m) (D.rS h m s (D.deeds L L.length) N k) = l
    intro hin hlen hj
    match l, hlen with
    | [], _ => cases hin
    | [x], _ =>
      rw [List.mem_singleton] at hin hj
      omega

set_option maxRecDepth 100000 in
set_option maxHeartbeats 3000000 in
theorem r_Twice_yes (A : CalArg w a n c L) (hn : n ≤ 17592186044000) (B : TownArg w a' n' c' M) (hv : D.valid h m s N L = true) (ht : D.townOk (D.beg h m s (D.deeds L L.length) N) ah M = true) (r : Nat) (hr : D.Dup (D.again (D.locP h m s (D.deeds L L.length) N ah M) (D.locS h m s (D.deeds L L.length) N)) (D.beg h m s (D.deeds L L.length) N).toNat r) :
    Calls Try.prog 39 #[.agg #[.int .i64 h, .int .i64 m, .int .i64 s, .int .i64 N, .slice a n c], .agg #[.int .i64 ah, .slice a' n' c']] w fun e w' => e = .returned (.tuple #[.int .i64 r, .int .i64 0]) ∧ Up w w' := by
  obtain ⟨h1, h2, m1, m2, s1, s2, d1, d2⟩ := D.valid_bd hv
  have U0 := ((Up.refl w).alloc (.cells #[.int .i64 h, .int .i64 m, .int .i64 s, .int .i64 N, .slice a n c] 24)).alloc (.cells #[.int .i64 ah, .slice a' n' c'] 44)
  have K := Lib.hid (r_CheckTown_any (h := h) (m := m) (s := s) (d := N) (c := c) (c' := c') (ah := ah) (A.up U0) hn (B.up U0))
  have e0 : D.townE h m s N L ah M = 0 := by simp only [D.townE, hv, Int.toNat_natCast, ht, if_true]
  rw [e0] at K
  have HBg := Lib.hid (fun w' (v : Up w w') => r_begins_any (c := c) (A.up v) hv N (by omega))
  have tb := D.beg_bd h m s (D.deeds L L.length) h1 h2 m1 m2 s1 s2 N
  have HK := Lib.hid (fun k kT => r_Twice_tick (a := a) (c := c) (c' := c') A B hv ht k kT)
  have hl := B.len
  have hmx := B.max
  generalize hag : D.again (D.locP h m s (D.deeds L L.length) N ah M) (D.locS h m s (D.deeds L L.length) N) = ag at *
  generalize D.beg h m s (D.deeds L L.length) N = T at *
  have c0 : mblk ((w.alloc (.cells #[.int .i64 h, .int .i64 m, .int .i64 s, .int .i64 N, .slice a n c] 24)).alloc (.cells #[.int .i64 ah, .slice a' n' c'] 44)) w.heap.size = some (.cells #[.int .i64 h, .int .i64 m, .int .i64 s, .int .i64 N, .slice a n c] 24 (0, 0)) := blk_keep _ (blk_new _ _ _ rfl)
  have t0 : mblk ((w.alloc (.cells #[.int .i64 h, .int .i64 m, .int .i64 s, .int .i64 N, .slice a n c] 24)).alloc (.cells #[.int .i64 ah, .slice a' n' c'] 44)) (w.heap.size + 1) = some (.cells #[.int .i64 ah, .slice a' n' c'] 44 (0, 0)) := blk_new _ _ _ (by simp)
  have HR := Lib.hid hr
  by_cases hn0 : n' = 0
  · have r0 : r = 0 := D.Dup.none _ r (fun i hi => by
      obtain ⟨_, _, _, _, _, _, _, _, _, _, _, _, _, _, _, q⟩ := HK.out i (by omega)
      exact q (by omega)) hr
    have g0 : ¬ ((0 : Int) < (n' : Int)) := by omega
    subst r0
    clear A B hv ht hr HR HK e0 hag hn0 hl
    go_enter Try.func39, Try.ntmps39
    go_wp2_with fail
    refine K.out.mono ?_
    rintro e w1 ⟨rfl, u1⟩
    have U1 := U0.trans u1
    have c1 := u1.blk c0
    have t1 := u1.blk t0
    have f1 := cellB c1
    clear u1 U0 c0 t0
    go_wp2_with fail
    refine (HBg.out _ U1).mono ?_
    rintro e w2 ⟨rfl, u2⟩
    have U2 := U1.trans u2
    have t2 := u2.blk t1
    clear u2 U1 c1 t1 f1
    by_cases hT : 0 < T
    · go_wp2_with fail
      go_loopw [7, 9] (fun nv tv wr => nv = .int .i64 0 ∧ tv = .int .i64 0 ∧ mblk wr (w.heap.size + 1) = some (.cells #[.int .i64 ah, .slice a' n' c'] 44 (0, 0)) ∧ Up w wr) (fun _ _ _ => 0)
      case atStart => exact ⟨rfl, rfl, t2, U2⟩
      case round =>
        obtain ⟨rfl, rfl, tj, Uj⟩ := hrel
        have f := cellB tj
        go_wp2
        go_ret2
        exact ⟨rfl, Uj⟩
    · exfalso; omega
  · have g0 : (0 : Int) < (n' : Int) := by omega
    clear A B hv ht hr e0 hag hn0 hl
    go_enter Try.func39, Try.ntmps39
    go_wp2_with fail
    refine K.out.mono ?_
    rintro e w1 ⟨rfl, u1⟩
    have U1 := U0.trans u1
    have c1 := u1.blk c0
    have t1 := u1.blk t0
    have f1 := cellB c1
    clear u1 U0 c0 t0
    go_wp2_with fail
    refine (HBg.out _ U1).mono ?_
    rintro e w2 ⟨rfl, u2⟩
    have U2 := U1.trans u2
    have c2 := u2.blk c1
    have t2 := u2.blk t1
    clear u2 U1 c1 t1 f1 K HBg
    go_wp2_with fail
    go_loopw [7, 9] (fun nv tv wr => ∃ j q : Nat, (j : Int) ≤ T ∧ nv = .int .i64 q ∧ tv = .int .i64 j ∧ Hid (D.Dup ag j q) ∧ mblk wr w.heap.size = some (.cells #[.int .i64 h, .int .i64 m, .int .i64 s, .int .i64 N, .slice a n c] 24 (0, 0)) ∧ mblk wr (w.heap.size + 1) = some (.cells #[.int .i64 ah, .slice a' n' c'] 44 (0, 0)) ∧ Up w wr) (fun _ tv _ => T.toNat - (intOf tv).toNat)
    case atStart => exact ⟨0, 0, by omega, rfl, rfl, rfl, c2, t2, U2⟩
    case round =>
      clear c2 t2 U2
      obtain ⟨j, q, hj, rfl, rfl, hD, cj, tj, Uj⟩ := hrel
      have fcj := cellB cj
      have ftj := cellB tj
      by_cases hlt : (j : Int) < T
      · obtain ⟨R1, R2, R3, R4, kk, LA, LB, LC, l, HRd, HAh, HMv, HTk, hl0, hiff, _⟩ := HK.out j hlt
        have H1 := Lib.hid HRd
        have H2 := Lib.hid HAh
        have H3 := Lib.hid HMv
        have H4 := Lib.hid HTk
        have HI := Lib.hid hiff
        have qle := D.Dup.le j q hD.out
        have eq1 : IntKind.i64.wrap ((q : Int) + 1) = (q : Int) + 1 := IntWalk.i64_in _ (by omega)
        clear HRd HAh HMv HTk hiff HK HR
        go_wp2_with fail
        refine wp_region_held_drew (S := fun w' => Up w w' ∧ mblk w' w.heap.size = some (.cells #[.int .i64 h, .int .i64 m, .int .i64 s, .int .i64 N, .slice a n c] 24 (0, 0)) ∧ mblk w' (w.heap.size + 1) = some (.cells #[.int .i64 ah, .slice a' n' c'] 44 (0, 0))) (by kernel_rfl) ⟨Uj.drew, by rw [blk_drew]; exact cj, by rw [blk_drew]; exact tj⟩ (fun hHeld => ?_)
        clear Uj cj tj fcj ftj
        refine takeH (i := 0) (d := (some 32)) (v := ?v1) rfl rfl (by kernel_rfl) (by kernel_rfl) (by kernel_rfl) (fun _ _ _ h => h) (by rfl) ?hy1 (by assumption) ?_
        case hy1 => ((intro w hSw; (try dsimp only at hSw); (try go_split_ands); go_simp); try with_reducible rfl)
        simp only [Act.put, List.setIfInBounds_toArray, List.set_cons_zero, List.set_cons_succ]
        refine takeH (i := 1) (d := (some 33)) (v := ?v2) rfl rfl (by kernel_rfl) (by kernel_rfl) (by kernel_rfl) (fun _ _ _ h => h) (by rfl) ?hy2 (by assumption) ?_
        case hy2 => ((intro w hSw; (try dsimp only at hSw); (try go_split_ands); go_simp); try with_reducible rfl)
        simp only [Act.put, List.setIfInBounds_toArray, List.set_cons_zero, List.set_cons_succ]
        refine takeH (i := 2) (d := (some 34)) (v := ?v3) rfl rfl (by kernel_rfl) (by kernel_rfl) (by kernel_rfl) (fun _ _ _ h => h) (by rfl) ?hy3 (by assumption) ?_
        case hy3 => ((intro w hSw; (try dsimp only at hSw); (try go_split_ands); go_simp); try with_reducible rfl)
        simp only [Act.put, List.setIfInBounds_toArray, List.set_cons_zero, List.set_cons_succ]
        refine takeH (i := 3) (d := (some 35)) (v := ?v4) rfl rfl (by kernel_rfl) (by kernel_rfl) (by kernel_rfl) (fun _ _ _ h => h) (by rfl) ?hy4 (by assumption) ?_
        case hy4 => ((intro w hSw; (try dsimp only at hSw); (try go_split_ands); go_simp); try with_reducible rfl)
        simp only [Act.put, List.setIfInBounds_toArray, List.set_cons_zero, List.set_cons_succ]
        refine takeH (i := 4) (d := (some 36)) (v := ?v5) rfl rfl (by kernel_rfl) (by kernel_rfl) (by kernel_rfl) (fun _ _ _ h => h) (by rfl) ?hy5 (by assumption) ?_
        case hy5 => ((intro w hSw; (try dsimp only at hSw); (try go_split_ands); go_simp); try with_reducible rfl)
        simp only [Act.put, List.setIfInBounds_toArray, List.set_cons_zero, List.set_cons_succ]
        refine takeH (i := 6) (d := (some 38)) (v := ?v6) rfl rfl (by kernel_rfl) (by kernel_rfl) (by kernel_rfl) (fun _ _ _ h => h) (by rfl) ?hy6 (by assumption) ?_
        case hy6 => ((intro w hSw; (try dsimp only at hSw); (try go_split_ands); go_simp); try with_reducible rfl)
        simp only [Act.put, List.setIfInBounds_toArray, List.set_cons_zero, List.set_cons_succ]
        refine takeH (i := 7) (d := (some 39)) (v := ?v7) rfl rfl (by kernel_rfl) (by kernel_rfl) (by kernel_rfl) (fun _ _ _ h => h) (by rfl) ?hy7 (by assumption) ?_
        case hy7 => ((intro w hSw; (try dsimp only at hSw); (try go_split_ands); go_simp); try with_reducible rfl)
        simp only [Act.put, List.setIfInBounds_toArray, List.set_cons_zero, List.set_cons_succ]
        refine wpAnyH_ready (rs := [5]) (by kernel_rfl) (by simp) ?_
        refine AllReadyH.cons rfl (fun K hK => ?_) AllReadyH.nil
        go_simp
        refine (H1.out _ hHeld.1).mono ?_
        rintro e w3 ⟨rfl, u3⟩
        go_wp2_with fail
        refine hK.out _ _ ⟨hHeld.1.trans u3, u3.blk hHeld.2.1, u3.blk hHeld.2.2⟩ (fun hHeld => ?_)
        clear hK K u3 H1
        refine wpAnyH_ready (rs := [8]) (by kernel_rfl) (by simp) ?_
        refine AllReadyH.cons rfl (fun K hK => ?_) AllReadyH.nil
        go_simp
        refine (H2.out _ hHeld.1).mono ?_
        rintro e w4 ⟨rfl, u4⟩
        go_wp2_with fail
        refine hK.out _ _ ⟨hHeld.1.trans u4, u4.blk hHeld.2.1, u4.blk hHeld.2.2⟩ (fun hHeld => ?_)
        clear hK K u4 H2
        refine wpAnyH_ready (rs := [9]) (by kernel_rfl) (by simp) ?_
        refine AllReadyH.cons rfl (fun K hK => ?_) AllReadyH.nil
        go_simp
        refine (H3.out _).mono ?_
        rintro e w5 ⟨rfl, u5⟩
        go_wp2_with fail
        refine hK.out _ _ ⟨hHeld.1.trans u5, u5.blk hHeld.2.1, u5.blk hHeld.2.2⟩ (fun hHeld => ?_)
        clear hK K u5 H3
        refine wpAnyH_ready (rs := [10]) (by kernel_rfl) (by simp) ?_
        refine AllReadyH.cons rfl (fun K hK => ?_) AllReadyH.nil
        go_simp
        refine (H4.out _ hHeld.1).mono ?_
        rintro e w6 ⟨v, rfl, u6, hS⟩
        go_wp2_with fail
        refine hK.out _ _ ⟨hHeld.1.trans u6, u6.blk hHeld.2.1, u6.blk hHeld.2.2⟩ (fun hHeld => ?_)
        clear hK K u6 H4
        refine takeH (i := 11) (d := (some 10)) (v := ?v12) rfl rfl (by kernel_rfl) (by kernel_rfl) (by kernel_rfl) (fun _ _ _ h => h) (by rfl) ?hy12 (by assumption) ?_
        case hy12 => ((intro w hSw; (try dsimp only at hSw); (try go_split_ands); go_simp); try with_reducible rfl)
        simp only [Act.put, List.setIfInBounds_toArray, List.set_cons_zero, List.set_cons_succ]
        refine wpAnyH_done (by kernel_rfl) ?_ _
        obtain ⟨b1, b2, rfl, _, hm⟩ := hS
        obtain ⟨g, rfl, g1, gc⟩ := hm hl0
        have y0 := gc 0 hl0
        obtain ⟨U7, c7, t7⟩ := hHeld
        obtain ⟨x, hx⟩ : ∃ x, l.getD 0 0 = x := ⟨_, rfl⟩
        rw [hx] at y0 HI
        have gl : (0 : Int) < (l.length : Int) := by omega
        have gn : (l.length : Int) ≠ 0 := by omega
        clear gc hm hx
        by_cases hit : x < (j : Int)
        · have h3 : Hid (D.Dup ag (j + 1) (q + 1)) := .inl ⟨HI.out.1 hit, q, rfl, hD.out⟩
          clear HI hD
          go_wp2
          go_roundw
          case rel => exact ⟨j + 1, q + 1, by omega, by go_num, by go_num, h3, c7, t7, U7⟩
          case measure => simp [intOf]; omega
        · have h3 : Hid (D.Dup ag (j + 1) q) := .inr ⟨fun e => hit (HI.out.2 e), hD.out⟩
          clear HI hD
          go_wp2
          go_roundw
          case rel => exact ⟨j + 1, q, by omega, rfl, by go_num, h3, c7, t7, U7⟩
          case measure => simp [intOf]; omega
      · have e : T.toNat = j := by omega
        have er : q = r := by have := HR.out; rw [e] at this; exact D.Dup.one j q r hD.out this
        subst er
        clear HK HR hD e
        go_wp2
        go_ret2
        exact ⟨rfl, Uj⟩
set_option maxRecDepth 100000 in
set_option maxHeartbeats 1000000 in
theorem r_Twice_no {d : Int} (A : CalArg w a n c L) (hn : n ≤ 17592186044000) (B : TownArg w a' n' c' M) (he : ¬ D.townE h m s d L ah M = 0) :
    Calls Try.prog 39 #[.agg #[.int .i64 h, .int .i64 m, .int .i64 s, .int .i64 d, .slice a n c], .agg #[.int .i64 ah, .slice a' n' c']] w fun e w' => e = .returned (.tuple #[.int .i64 0, .int .i64 (D.townE h m s d L ah M)]) ∧ Up w w' := by
  have U0 := ((Up.refl w).alloc (.cells #[.int .i64 h, .int .i64 m, .int .i64 s, .int .i64 d, .slice a n c] 24)).alloc (.cells #[.int .i64 ah, .slice a' n' c'] 44)
  have K := Lib.hid (r_CheckTown_any (h := h) (m := m) (s := s) (d := d) (c := c) (c' := c') (ah := ah) (A.up U0) hn (B.up U0))
  generalize D.townE h m s d L ah M = E at *
  have hE : (E != 0) = true := by simp [he]
  clear A B he
  go_enter Try.func39, Try.ntmps39
  go_wp2_with fail
  refine K.out.mono ?_
  rintro e w1 ⟨rfl, u1⟩
  go_wp2
  go_ret2
  exact ⟨rfl, U0.trans u1⟩
end

end Go.Proofs.Ytfmnfingliflkaa
