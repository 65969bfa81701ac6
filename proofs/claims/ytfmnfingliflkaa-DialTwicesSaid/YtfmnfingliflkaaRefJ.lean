import Derived.Test.YtfmnfingliflkaaRefI
/- The contracts of the reference's ticks and Ticks. -/
namespace Go.Proofs.Ytfmnfingliflkaa
open Go.RowKit
attribute [local go_sem] cell_CAL cell_TWN

theorem D.prop_mem {h m s : Int} {x : Nat → Int} {n : Nat} (h1 : 1 ≤ h) (h2 : h ≤ 24) (m1 : 1 ≤ m) (m2 : m ≤ 60) (s1 : 2 ≤ s) (s2 : s ≤ 60) (n2 : n ≤ 10) {ah : Int} {M : List (Int × Int)} (ht : D.townOk (D.beg h m s x n) ah M = true) (a b c q : Int) (hp : D.prop h m a b c = false) : D.ticksV h m s n x ah M a b c q = [] := by
  rw [List.eq_nil_iff_forall_not_mem]
  intro t hm
  obtain ⟨t0, tT, ea, eb, ec, _⟩ := (D.ticks_mem h1 h2 m1 m2 s1 s2 n2 ht a b c q t).1 hm
  obtain ⟨u, k, e1, e2, e3, u0, u1, k0, k1, e4, e5, e6⟩ := D.local_is h1 h2 m1 m2 s1 n2 ht t0 tT
  have r := D.rd_is (x := x) (n := n) h1 m1 s1 t0 tT
  obtain ⟨g1, g2, g3, g4, g5, g6⟩ := D.cnt_rd r h1 h2 m1 m2 n2
  obtain ⟨b1, b2, b3, b4⟩ := D.parts_bd (u + k) h1 h2 m1 m2
  obtain ⟨P1, P2⟩ := D.mul_bd h m h1 h2 m1 m2
  rw [e3] at ea eb ec
  have eu : u = D.rA h m s x n t * (h * m) + D.q h m s (D.rR h m s x n t) := by rw [← e1, g1]
  have un : u < n * (h * m) := by rw [eu]; exact g3
  have n10 : (n : Int) * (h * m) ≤ 10 * (h * m) := Int.mul_le_mul_of_nonneg_right (by omega) (by omega)
  have a1 : a ≤ 2000 := by rw [← ea]; exact Int.ediv_le_of_le_mul (by omega) (by omega)
  have a2 : -2000 ≤ a := by rw [← ea]; exact Int.le_ediv_of_mul_le (by omega) (by omega)
  rw [D.prop, inB_yes (by omega) (by omega), inB_yes (by omega) (by omega), inB_yes a2 a1] at hp
  cases hp

/-- what a period holds, as the reference tells it -/
theorem D.hit_ref {h m s : Int} {x : Nat → Int} {n : Nat} {a b c q u : Int} (hc : D.cnt h m a b c = u) (u1 : -3000000 ≤ u) (u2 : u ≤ 3000000) (X : Nat → Int) (j : Nat) {f ul k : Int} (e1 : X (j * 3) = f) (e2 : X (j * 3 + 1) = ul) (e3 : X (j * 3 + 2) = k) (f0 : 0 ≤ f) (ul0 : 0 ≤ ul ∧ ul ≤ 10000000) (k1 : -1440 ≤ k) (k2 : k ≤ 1440) :
    D.hit (fun k => if D.isRd h m s n x (D.lmin h m a b c k / (h * m)) (D.lmin h m a b c k % (h * m) / m) (D.lmin h m a b c k % (h * m) % m) q = true then D.tk h m s x (D.lmin h m a b c k / (h * m)) (D.lmin h m a b c k % (h * m) / m) (D.lmin h m a b c k % (h * m) % m) q else 0)
      (fun k => D.isRd h m s n x (D.lmin h m a b c k / (h * m)) (D.lmin h m a b c k % (h * m) / m) (D.lmin h m a b c k % (h * m) % m) q) X j
    = if f ≤ D.tof h m s x n ((u + -k) / (h * m)) ((u + -k) % (h * m) / m) ((u + -k) % (h * m) % m) q ∧ D.tof h m s x n ((u + -k) / (h * m)) ((u + -k) % (h * m) / m) ((u + -k) % (h * m) % m) q < ul then [D.tof h m s x n ((u + -k) / (h * m)) ((u + -k) % (h * m) / m) ((u + -k) % (h * m) % m) q] else [] := by
  have el : D.lmin h m a b c (-k) = u + -k := by unfold D.lmin; rw [hc]; exact wrap64_in (by omega)
  unfold D.hit
  simp only [e1, e2, e3]
  rw [wrap64_in (z := -k) (by omega), wrap64_in (z := ul - 1) (by omega), el]
  unfold D.tof
  cases hr : D.isRd h m s n x ((u + -k) / (h * m)) ((u + -k) % (h * m) / m) ((u + -k) % (h * m) % m) q
  · simp
    intro h
    omega
  · simp only [if_true, Bool.true_and]
    generalize D.tk h m s x ((u + -k) / (h * m)) ((u + -k) % (h * m) / m) ((u + -k) % (h * m) % m) q = t
    by_cases g : f ≤ t ∧ t < ul
    · rw [if_pos g, if_pos (inB_yes g.1 (by omega))]
    · rw [if_neg g, inB_no (by omega)]
      rfl

set_option maxRecDepth 100000 in
set_option maxHeartbeats 6000000 in
theorem r_ticks_yes {h m s : Int} {N : Nat} {a : Option Addr} {n c : Nat} {L : List (Int × Bool)} {ah : Int} {a' : Option Addr} {n' c' : Nat} {M : List (Int × Int)} {w : World} (A : CalArg w a n c L) (B : TownArg w a' n' c' M) (hv : D.valid h m s N L = true) (ht : D.townOk (D.beg h m s (D.deeds L L.length) N) ah M = true) (p0 p1 p2 p3 : Int) (hp : D.prop h m p0 p1 p2 = true) :
    Calls Try.prog 75 #[.agg #[.int .i64 h, .int .i64 m, .int .i64 s, .int .i64 N, .slice a n c], .agg #[.int .i64 ah, .slice a' n' c'], rd p0 p1 p2 p3] w fun e w' => ∃ v, e = .returned v ∧ Up w w' ∧ D.Sl w' v (D.ticksV h m s N (D.deeds L L.length) ah M p0 p1 p2 p3) := by
  obtain ⟨h1, h2, m1, m2, s1, s2, d1, d2⟩ := D.valid_bd hv
  obtain ⟨a1, a2, ml, mb, mi⟩ := D.town_bd ht
  have hl := B.len
  simp only [D.prop, Bool.and_eq_true, inB_iff] at hp
  obtain ⟨⟨y1, y2⟩, ⟨y3, y4⟩, y5, y6⟩ := hp
  obtain ⟨P1, P2⟩ := D.mul_bd h m h1 h2 m1 m2
  obtain ⟨hdv, eq1, eq2⟩ := D.divd_of (a := p0) h1 h2 m1 m2 (by omega) (by omega) y1 y2 y3 y4
  have g1 : p1 * m ≤ (h - 1) * m := Int.mul_le_mul_of_nonneg_right y2 (by omega)
  rw [Int.sub_mul] at g1
  have g0 := Int.mul_nonneg y1 (show 0 ≤ m by omega)
  have j1 : p0 * (h * m) ≤ 2000 * (h * m) := Int.mul_le_mul_of_nonneg_right y6 (by omega)
  have j2 : -2000 * (h * m) ≤ p0 * (h * m) := Int.mul_le_mul_of_nonneg_right y5 (by omega)
  have ev := (Int.ediv_emod_unique (a := p1 * m + p2) (b := m) (r := p2) (q := p1) (by omega)).2 ⟨by rw [Int.mul_comm m p1]; omega, by omega, by omega⟩
  have hcnt : D.cnt h m p0 p1 p2 = p0 * (h * m) + (p1 * m + p2) := by
    have ec := D.cnt_parts (h := h) (m := m) (p0 * (h * m) + (p1 * m + p2)) h1 h2 m1 m2 (by omega) (by omega)
    rw [eq1, eq2, ev.1, ev.2] at ec
    exact ec
  have HPr := Lib.hid (fun w => show Calls Try.prog 97 #[.agg #[.int .i64 h, .int .i64 m, .int .i64 s, .int .i64 N, .slice a n c], rd p0 p1 p2 p3] w fun e w' => e = .returned (.bool true) ∧ Up w w' by
    have K := r_proper_any (s := s) (d := N) (a := a) (n := n) (c := c) (w := w) h1 h2 m1 m2 p0 p1 p2 p3
    have e : D.prop h m p0 p1 p2 = true := by rw [D.prop, inB_yes y1 y2, inB_yes y3 y4, inB_yes y5 y6]; rfl
    rw [e] at K
    exact K)
  have HMv := Lib.hid (fun k (k1 : -1440 ≤ k) (k2 : k ≤ 1440) w => r_moved_any (s := s) (d := N) (a := a) (n := n) (c := c) (w := w) h1 h2 m1 m2 p0 p1 p2 p3 k (by omega) (by omega) y1 y2 y3 y4 k1 k2)
  have HTo := Lib.hid (fun q0 q1 q2 w' (v : Up w w') => r_tickOf_any (c := c) (A.up v) hv q0 q1 q2 p3)
  have HBg := Lib.hid (fun w' (v : Up w w') => r_begins_any (c := c) (A.up v) hv N (by omega))
  obtain ⟨u, hu⟩ : ∃ u, p0 * (h * m) + (p1 * m + p2) = u := ⟨_, rfl⟩
  rw [hu] at hcnt HMv
  have ub : -3000000 ≤ u ∧ u ≤ 3000000 := by omega
  have tb := D.beg_bd h m s (D.deeds L L.length) h1 h2 m1 m2 s1 s2 N
  have eT : wrap64 (D.tot (D.lens h m s (D.deeds L L.length) N)) = D.beg h m s (D.deeds L L.length) N := wrap64_in (by show -9223372036854775808 ≤ D.beg h m s (D.deeds L L.length) N ∧ D.beg h m s (D.deeds L L.length) N ≤ 9223372036854775807; omega)
  have hR := fun j f ul k => D.hit_ref (s := s) (x := D.deeds L L.length) (n := N) (q := p3) hcnt ub.1 ub.2 (fun j => (D.pers (D.beg h m s (D.deeds L L.length) N) 0 ah M).getD j 0) j (f := f) (ul := ul) (k := k)
  unfold D.ticksV
  rw [if_pos hdv, eT]
  generalize hX : (fun j => (D.pers (D.beg h m s (D.deeds L L.length) N) 0 ah M).getD j 0) = X at *
  have hX' : ∀ j, (D.pers (D.beg h m s (D.deeds L L.length) N) 0 ah M).getD j 0 = X j := fun j => by rw [← hX]
  have per := fun j hj => D.pers_at (D.beg h m s (D.deeds L L.length) N) 0 ah M j hj
  simp only [hX'] at per hR
  generalize (fun k => if D.isRd h m s N (D.deeds L L.length) (D.lmin h m p0 p1 p2 k / (h * m)) (D.lmin h m p0 p1 p2 k % (h * m) / m) (D.lmin h m p0 p1 p2 k % (h * m) % m) p3 = true then D.tk h m s (D.deeds L L.length) (D.lmin h m p0 p1 p2 k / (h * m)) (D.lmin h m p0 p1 p2 k % (h * m) / m) (D.lmin h m p0 p1 p2 k % (h * m) % m) p3 else 0) = tv at *
  generalize (fun k => D.isRd h m s N (D.deeds L L.length) (D.lmin h m p0 p1 p2 k / (h * m)) (D.lmin h m p0 p1 p2 k % (h * m) / m) (D.lmin h m p0 p1 p2 k % (h * m) % m) p3) = ok at *
  generalize D.tof h m s (D.deeds L L.length) N = tof at *
  generalize D.beg h m s (D.deeds L L.length) N = T at *
  have hHL := D.hits_len tv ok X
  have HHit := Lib.hid (fun j => show D.hits tv ok X (j + 1) = D.hits tv ok X j ++ D.hit tv ok X j from rfl)
  have HRR := Lib.hid hR
  have HB := Lib.hid (fun w' (v : Up w w') => (B.up v).mem)
  have HN := Lib.hid hl
  have HPer := Lib.hid per
  have HMb := Lib.hid mb
  obtain ⟨i0, hin, hz0, hz1, hz2⟩ := info_parts Try.infoInt
  rw [← hl] at ml ⊢
  clear A B hv ht hdv hcnt eT hX hX' per hR hl mb mi g0 g1 j1 j2 eq1 eq2 ev hu
  go_enter Try.func75, Try.ntmps75
  go_wp2_with fail
  go_loopw [7, 8] (fun lv iv wr => ∃ (j : Nat) (i : Int) (ov : Value), lv = ov ∧ j ≤ n' + 1 ∧ i = (j : Int) - 1 ∧ iv = .int .i64 i ∧ mblk wr w.heap.size = some (.cells #[.int .i64 h, .int .i64 m, .int .i64 s, .int .i64 N, .slice a n c] 24 (0, 0)) ∧ mblk wr (w.heap.size + 1) = some (.cells #[.int .i64 ah, .slice a' n' c'] 44 (0, 0)) ∧ mblk wr (w.heap.size + 1 + 1) = some (.cells #[.int .i64 p0, .int .i64 p1, .int .i64 p2, .int .i64 p3] 27 (0, 0)) ∧ wr.ownsRow (w.heap.size + 1 + 1 + 1) 3 1 ov (D.hits tv ok X j).length ((D.hits tv ok X j).map (Value.int .i64)) ∧ Up w wr) (fun _ iv _ => (n' - intOf iv).toNat)
  case atStart => exact ⟨0, -1, _, rfl, by omega, rfl, rfl, blk_keep _ (blk_keep _ (blk_new _ _ _ rfl)), blk_keep _ (blk_new _ _ _ (by simp)), blk_new _ _ _ (by simp), by simpa [D.hits] using World.ownsRow_nil _ _ _ _, (((Up.refl _).alloc _).alloc _).alloc _⟩
  case round =>
    obtain ⟨j, i, ov, hov, hj, hi, rfl, cj, tj, rj, hown, Uj⟩ := hrel
    rw [hov]
    clear hov
    have fcj := cellB cj
    have ftj := cellB tj
    have frj := cellB rj
    by_cases hend : j = n' + 1
    · have g : ¬ (i < (n' : Int)) := by omega
      have hlen : (D.hits tv ok X j).length ≤ 1000000 := by have := hHL j; omega
      have SL := D.ownSl hown rfl hlen
      subst hend
      clear HHit HRR HB HPer HMb HMv HTo HBg HPr hown
      go_wp2
      go_ret
      exact ⟨_, rfl, Uj, SL⟩
    · have g : i < (n' : Int) := by omega
      have ownj := hown
      clear hown
      by_cases hf : j = 0
      · by_cases hla : n' = 0
        · obtain ⟨e1, e2, e3⟩ := HPer.out j (by rw [← HN.out]; omega)
          obtain rfl : j = 0 := by omega
          have gi : ¬ (0 ≤ i) := by omega
          have e10 : IntKind.i64.wrap (i + 1) = 0 := by rw [IntWalk.i64_in _ (by omega)]; omega
          rw [if_pos rfl] at e1 e3
          rw [if_pos (by rw [← HN.out]; omega)] at e2
          have hh := HRR.out _ _ _ _ e1 e2 e3 (by omega) (by omega) (by omega) (by omega)
          have HM := Lib.hid (HMv.out (-ah) (by omega) (by omega))
          have HT := Lib.hid (HTo.out ((u + -ah) / (h * m)) ((u + -ah) % (h * m) / m) ((u + -ah) % (h * m) % m))
          have en : IntKind.i64.wrap (-ah) = -ah := IntWalk.i64_in _ (by omega)
          generalize (u + -ah) / (h * m) = A1 at *
          generalize (u + -ah) % (h * m) / m = A2 at *
          generalize (u + -ah) % (h * m) % m = A3 at *
          obtain ⟨nj, hnj⟩ : ∃ nj, tof A1 A2 A3 p3 = nj := ⟨_, rfl⟩
          rw [hnj] at hh HT
          have hHj := HHit.out 0
          rw [hh] at hHj
          have hLen := hHL 0
          have HJ := Lib.hid hHj
          have HLn := Lib.hid hLen
          clear hh hHj hLen e1 e2 e3 hnj HPer HRR HHit HMv HTo HMb HB
          have lt9 : ¬ ((0 : Int) < (n' : Int)) := by omega
          clear hla hf hi hend
          go_wp2_with fail
          refine (HPr.out _).mono ?_
          rintro e w1 ⟨rfl, v1⟩
          have U1 := Uj.trans v1
          have c1 := v1.blk cj
          have t1 := v1.blk tj
          have r1 := v1.blk rj
          have own1 := own_up ownj v1
          have fc1 := cellB c1
          have ft1 := cellB t1
          have fr1 := cellB r1
          clear v1 Uj cj tj rj ownj fcj ftj frj
          go_wp2_with fail
          refine wp_region_held_drew (S := (fun w' => Up w w' ∧ mblk w' w.heap.size = some (.cells #[.int .i64 h, .int .i64 m, .int .i64 s, .int .i64 N, .slice a n c] 24 (0, 0)) ∧ mblk w' (w.heap.size + 1) = some (.cells #[.int .i64 ah, .slice a' n' c'] 44 (0, 0)) ∧ mblk w' (w.heap.size + 1 + 1) = some (.cells #[.int .i64 p0, .int .i64 p1, .int .i64 p2, .int .i64 p3] 27 (0, 0)) ∧ w'.ownsRow (w.heap.size + 1 + 1 + 1) 3 1 ov (D.hits tv ok X 0).length ((D.hits tv ok X 0).map (Value.int .i64)))) (by kernel_rfl) ⟨U1.drew, by rw [blk_drew]; exact c1, by rw [blk_drew]; exact t1, by rw [blk_drew]; exact r1, own_up own1 (Up.refl _).drew⟩ (fun hHeld => ?_)
          clear U1 c1 t1 r1 own1 fc1 ft1 fr1
          refine takeH (i := 0) (d := (some 25)) (v := ?v1) rfl rfl (by kernel_rfl) (by kernel_rfl) (by kernel_rfl) (fun _ _ _ h => h) (by rfl) ?hy1 (by assumption) ?_
          case hy1 => ((intro w hSw; (try dsimp only at hSw); (try go_split_ands); go_simp); try with_reducible rfl)
          simp only [Act.put, List.setIfInBounds_toArray, List.set_cons_zero, List.set_cons_succ]
          refine takeH (i := 2) (d := (some 9)) (v := ?v2) rfl rfl (by kernel_rfl) (by kernel_rfl) (by kernel_rfl) (fun _ _ _ h => h) (by rfl) ?hy2 (by assumption) ?_
          case hy2 => ((intro w hSw; (try dsimp only at hSw); (try go_split_ands); go_simp); try with_reducible rfl)
          simp only [Act.put, List.setIfInBounds_toArray, List.set_cons_zero, List.set_cons_succ]
          refine takeH (i := 1) (d := (some 26)) (v := ?v3) rfl rfl (by kernel_rfl) (by kernel_rfl) (by kernel_rfl) (fun _ _ _ h => h) (by rfl) ?hy3 (by assumption) ?_
          case hy3 => ((intro w hSw; (try dsimp only at hSw); (try go_split_ands); go_simp); try with_reducible rfl)
          simp only [Act.put, List.setIfInBounds_toArray, List.set_cons_zero, List.set_cons_succ]
          refine takeH (i := 3) (d := (some 10)) (v := ?v4) rfl rfl (by kernel_rfl) (by kernel_rfl) (by kernel_rfl) (fun _ _ _ h => h) (by rfl) ?hy4 (by assumption) ?_
          case hy4 => ((intro w hSw; (try dsimp only at hSw); (try go_split_ands); go_simp); try with_reducible rfl)
          simp only [Act.put, List.setIfInBounds_toArray, List.set_cons_zero, List.set_cons_succ]
          refine wpAnyH_done (by kernel_rfl) ?_ _
          obtain ⟨U2, c2, t2, r2, own2⟩ := hHeld
          have fc2 := cellB c2
          have ft2 := cellB t2
          have fr2 := cellB r2
          go_wp2_with fail
          refine (HBg.out _ U2).mono ?_
          rintro e w4 ⟨rfl, v4⟩
          have U4 := U2.trans v4
          have c4 := v4.blk c2
          have t4 := v4.blk t2
          have r4 := v4.blk r2
          have own4 := own_up own2 v4
          have fc4 := cellB c4
          have ft4 := cellB t4
          have fr4 := cellB r4
          clear v4 U2 c2 t2 r2 own2 fc2 ft2 fr2
          go_wp2_with fail
          refine wp_region_held_drew (S := (fun w' => Up w w' ∧ mblk w' w.heap.size = some (.cells #[.int .i64 h, .int .i64 m, .int .i64 s, .int .i64 N, .slice a n c] 24 (0, 0)) ∧ mblk w' (w.heap.size + 1) = some (.cells #[.int .i64 ah, .slice a' n' c'] 44 (0, 0)) ∧ mblk w' (w.heap.size + 1 + 1) = some (.cells #[.int .i64 p0, .int .i64 p1, .int .i64 p2, .int .i64 p3] 27 (0, 0)) ∧ w'.ownsRow (w.heap.size + 1 + 1 + 1) 3 1 ov (D.hits tv ok X 0).length ((D.hits tv ok X 0).map (Value.int .i64)))) (by kernel_rfl) ⟨U4.drew, by rw [blk_drew]; exact c4, by rw [blk_drew]; exact t4, by rw [blk_drew]; exact r4, own_up own4 (Up.refl _).drew⟩ (fun hHeld => ?_)
          clear U4 c4 t4 r4 own4 fc4 ft4 fr4
          refine takeH (i := 0) (d := (some 58)) (v := ?v5) rfl rfl (by kernel_rfl) (by kernel_rfl) (by kernel_rfl) (fun _ _ _ h => h) (by rfl) ?hy5 (by assumption) ?_
          case hy5 => ((intro w hSw; (try dsimp only at hSw); (try go_split_ands); go_simp); try with_reducible rfl)
          simp only [Act.put, List.setIfInBounds_toArray, List.set_cons_zero, List.set_cons_succ]
          refine takeH (i := 1) (d := (some 59)) (v := ?v6) rfl rfl (by kernel_rfl) (by kernel_rfl) (by kernel_rfl) (fun _ _ _ h => h) (by rfl) ?hy6 (by assumption) ?_
          case hy6 => ((intro w hSw; (try dsimp only at hSw); (try go_split_ands); go_simp); try with_reducible rfl)
          simp only [Act.put, List.setIfInBounds_toArray, List.set_cons_zero, List.set_cons_succ]
          refine takeH (i := 2) (d := (some 60)) (v := ?v7) rfl rfl (by kernel_rfl) (by kernel_rfl) (by kernel_rfl) (fun _ _ _ h => h) (by rfl) ?hy7 (by assumption) ?_
          case hy7 => ((intro w hSw; (try dsimp only at hSw); (try go_split_ands); go_simp); try with_reducible rfl)
          simp only [Act.put, List.setIfInBounds_toArray, List.set_cons_zero, List.set_cons_succ]
          refine takeH (i := 3) (d := (some 61)) (v := ?v8) rfl rfl (by kernel_rfl) (by kernel_rfl) (by kernel_rfl) (fun _ _ _ h => h) (by rfl) ?hy8 (by assumption) ?_
          case hy8 => ((intro w hSw; (try dsimp only at hSw); (try go_split_ands); go_simp); try with_reducible rfl)
          simp only [Act.put, List.setIfInBounds_toArray, List.set_cons_zero, List.set_cons_succ]
          refine takeH (i := 4) (d := (some 62)) (v := ?v9) rfl rfl (by kernel_rfl) (by kernel_rfl) (by kernel_rfl) (fun _ _ _ h => h) (by rfl) ?hy9 (by assumption) ?_
          case hy9 => ((intro w hSw; (try dsimp only at hSw); (try go_split_ands); go_simp); try with_reducible rfl)
          simp only [Act.put, List.setIfInBounds_toArray, List.set_cons_zero, List.set_cons_succ]
          refine wpAnyH_ready (rs := [5]) (by kernel_rfl) (by simp) ?_
          refine AllReadyH.cons rfl (fun K hK => ?_) AllReadyH.nil
          go_simp
          refine (HM.out _).mono ?_
          rintro e w5 ⟨rfl, v5⟩
          go_wp2_with fail
          refine hK.out _ _ ⟨hHeld.1.trans v5, v5.blk hHeld.2.1, v5.blk hHeld.2.2.1, v5.blk hHeld.2.2.2.1, own_up hHeld.2.2.2.2 v5⟩ (fun hHeld => ?_)
          clear hK K v5
          refine wpAnyH_ready (rs := [6]) (by kernel_rfl) (by simp) ?_
          refine AllReadyH.cons rfl (fun K hK => ?_) AllReadyH.nil
          go_simp
          refine (HT.out _ hHeld.1).mono ?_
          rintro e w6 ⟨rfl, v6⟩
          go_wp2_with fail
          refine hK.out _ _ ⟨hHeld.1.trans v6, v6.blk hHeld.2.1, v6.blk hHeld.2.2.1, v6.blk hHeld.2.2.2.1, own_up hHeld.2.2.2.2 v6⟩ (fun hHeld => ?_)
          clear hK K v6
          refine takeH (i := 7) (d := (some 12)) (v := ?v12) rfl rfl (by kernel_rfl) (by kernel_rfl) (by kernel_rfl) (fun _ _ _ h => h) (by rfl) ?hy12 (by assumption) ?_
          case hy12 => ((intro w hSw; (try dsimp only at hSw); (try go_split_ands); go_simp); try with_reducible rfl)
          simp only [Act.put, List.setIfInBounds_toArray, List.set_cons_zero, List.set_cons_succ]
          refine wpAnyH_done (by kernel_rfl) ?_ _
          obtain ⟨U7, c7, t7, r7, own7⟩ := hHeld
          have fc7 := cellB c7
          have ft7 := cellB t7
          have fr7 := cellB r7
          clear HM HT HPr HBg
          by_cases hit : 0 ≤ nj ∧ nj < T
          · have h3 : Hid (D.hits tv ok X (0 + 1) = D.hits tv ok X (0) ++ [nj]) := by show _ = _; rw [HJ.out, if_pos hit]
            obtain ⟨hi1, hi2⟩ := hit
            have lo7 := HLn.out
            have own7' := own7
            go_wp2_with (at_builtin; refine wpList_append_own _ rfl (.tmp 73) (.tmp 75) 49 rfl (w.heap.size + 1 + 1 + 1) 3 i0 (.int .i64 0) 1 8 Try.underlying49 hin hz0 hz1 hz2 rfl (by decide) _ _ _ rfl (own7.alloc _) ⟨_, 0, none⟩ 1 1 [.int .i64 nj] rfl rfl (cell_one_at _ _ _ _ rfl) (by simp [Value.oneCell']) (by unfold maxLen; omega) (by omega) (by have := U7.size; have := blk_lt r7; simp; omega) ?_; intro v' w8 own8 hgrow8 _)
            have c8 := grown_blk hgrow8 (blk_keep _ c7) (own_ne own7' (by omega))
            have t8 := grown_blk hgrow8 (blk_keep _ t7) (own_ne own7' (by omega))
            have r8 := grown_blk hgrow8 (blk_keep _ r7) (own_ne own7' (by omega))
            have U8 := (U7.alloc _).grown hgrow8 (fun j hj => by have := own_block own7' hj; omega)
            clear hgrow8 own7 own7' c7 t7 r7 U7 fc7 ft7 fr7
            go_wp2
            go_roundw
            case rel => exact ⟨0 + 1, ((0 + 1 : Nat) : Int) - 1, _, rfl, by omega, rfl, by first | go_num | simp, c8, t8, r8, by rw [h3.out, List.length_append, List.map_append]; exact own8, U8⟩
            case measure => simp [intOf]; omega
          · have h3 : Hid (D.hits tv ok X (0 + 1) = D.hits tv ok X (0)) := by show _ = _; rw [HJ.out, if_neg hit, List.append_nil]
            by_cases lo : 0 ≤ nj
            · have hi2 : ¬ (nj < T) := fun q => hit ⟨lo, q⟩
              clear hit HJ
              go_wp2
              go_roundw
              case rel => exact ⟨0 + 1, ((0 + 1 : Nat) : Int) - 1, _, rfl, by omega, rfl, by first | go_num | simp, c7, t7, r7, by rw [h3.out]; exact own7, U7⟩
              case measure => simp [intOf]; omega
            · skip
              clear hit HJ
              go_wp2
              go_roundw
              case rel => exact ⟨0 + 1, ((0 + 1 : Nat) : Int) - 1, _, rfl, by omega, rfl, by first | go_num | simp, c7, t7, r7, by rw [h3.out]; exact own7, U7⟩
              case measure => simp [intOf]; omega
        · obtain ⟨b, off, rfl, hC⟩ := HB.out _ Uj (by omega)
          have hbl := hC.lt
          obtain ⟨e1, e2, e3⟩ := HPer.out j (by rw [← HN.out]; omega)
          obtain rfl : j = 0 := by omega
          have gi : ¬ (0 ≤ i) := by omega
          have e10 : IntKind.i64.wrap (i + 1) = 0 := by rw [IntWalk.i64_in _ (by omega)]; omega
          rw [if_pos rfl] at e1 e3
          rw [if_neg (by rw [← HN.out]; omega)] at e2
          have yj1 := hC.tick 0 (by rw [← HN.out]; omega)
          have bj := HMb.out 0 (by rw [← HN.out]; omega)
          generalize M.getD 0 (0, 0) = xx at *
          obtain ⟨x1, x2⟩ := xx
          simp only at yj1 bj e2
          rw [Nat.zero_mul, Nat.add_zero] at yj1
          have hh := HRR.out _ _ _ _ e1 e2 e3 (by omega) (by omega) (by omega) (by omega)
          have HM := Lib.hid (HMv.out (-ah) (by omega) (by omega))
          have HT := Lib.hid (HTo.out ((u + -ah) / (h * m)) ((u + -ah) % (h * m) / m) ((u + -ah) % (h * m) % m))
          have en : IntKind.i64.wrap (-ah) = -ah := IntWalk.i64_in _ (by omega)
          generalize (u + -ah) / (h * m) = A1 at *
          generalize (u + -ah) % (h * m) / m = A2 at *
          generalize (u + -ah) % (h * m) % m = A3 at *
          obtain ⟨nj, hnj⟩ : ∃ nj, tof A1 A2 A3 p3 = nj := ⟨_, rfl⟩
          rw [hnj] at hh HT
          have hHj := HHit.out 0
          rw [hh] at hHj
          have hLen := hHL 0
          have HJ := Lib.hid hHj
          have HLn := Lib.hid hLen
          clear hh hHj hLen e1 e2 e3 hnj HPer HRR HHit HMv HTo HMb HB
          have lt9 : ((0 : Int) < (n' : Int)) := by omega
          clear hla hf hi hend bj
          go_wp2_with fail
          refine (HPr.out _).mono ?_
          rintro e w1 ⟨rfl, v1⟩
          have yj1' := (v1.facts.1 b _ hbl).trans yj1
          clear yj1
          have hbl1 := Nat.lt_of_lt_of_le hbl v1.size
          clear hbl hC
          have U1 := Uj.trans v1
          have c1 := v1.blk cj
          have t1 := v1.blk tj
          have r1 := v1.blk rj
          have own1 := own_up ownj v1
          have fc1 := cellB c1
          have ft1 := cellB t1
          have fr1 := cellB r1
          clear v1 Uj cj tj rj ownj fcj ftj frj
          go_wp2_with fail
          refine wp_region_held_drew (S := (fun w' => Up w w' ∧ mblk w' w.heap.size = some (.cells #[.int .i64 h, .int .i64 m, .int .i64 s, .int .i64 N, .slice a n c] 24 (0, 0)) ∧ mblk w' (w.heap.size + 1) = some (.cells #[.int .i64 ah, .slice (some ⟨b, off, none⟩) n' c'] 44 (0, 0)) ∧ mblk w' (w.heap.size + 1 + 1) = some (.cells #[.int .i64 p0, .int .i64 p1, .int .i64 p2, .int .i64 p3] 27 (0, 0)) ∧ w'.ownsRow (w.heap.size + 1 + 1 + 1) 3 1 ov (D.hits tv ok X 0).length ((D.hits tv ok X 0).map (Value.int .i64)) ∧ w'.cell? ⟨b, off, none⟩ = some (.int .i64 x1))) (by kernel_rfl) ⟨U1.drew, by rw [blk_drew]; exact c1, by rw [blk_drew]; exact t1, by rw [blk_drew]; exact r1, own_up own1 (Up.refl _).drew, yj1'⟩ (fun hHeld => ?_)
          clear U1 c1 t1 r1 own1 fc1 ft1 fr1
          clear yj1'
          refine takeH (i := 0) (d := (some 25)) (v := ?v13) rfl rfl (by kernel_rfl) (by kernel_rfl) (by kernel_rfl) (fun _ _ _ h => h) (by rfl) ?hy13 (by assumption) ?_
          case hy13 => ((intro w hSw; (try dsimp only at hSw); (try go_split_ands); go_simp); try with_reducible rfl)
          simp only [Act.put, List.setIfInBounds_toArray, List.set_cons_zero, List.set_cons_succ]
          refine takeH (i := 2) (d := (some 9)) (v := ?v14) rfl rfl (by kernel_rfl) (by kernel_rfl) (by kernel_rfl) (fun _ _ _ h => h) (by rfl) ?hy14 (by assumption) ?_
          case hy14 => ((intro w hSw; (try dsimp only at hSw); (try go_split_ands); go_simp); try with_reducible rfl)
          simp only [Act.put, List.setIfInBounds_toArray, List.set_cons_zero, List.set_cons_succ]
          refine takeH (i := 1) (d := (some 26)) (v := ?v15) rfl rfl (by kernel_rfl) (by kernel_rfl) (by kernel_rfl) (fun _ _ _ h => h) (by rfl) ?hy15 (by assumption) ?_
          case hy15 => ((intro w hSw; (try dsimp only at hSw); (try go_split_ands); go_simp); try with_reducible rfl)
          simp only [Act.put, List.setIfInBounds_toArray, List.set_cons_zero, List.set_cons_succ]
          refine takeH (i := 3) (d := (some 10)) (v := ?v16) rfl rfl (by kernel_rfl) (by kernel_rfl) (by kernel_rfl) (fun _ _ _ h => h) (by rfl) ?hy16 (by assumption) ?_
          case hy16 => ((intro w hSw; (try dsimp only at hSw); (try go_split_ands); go_simp); try with_reducible rfl)
          simp only [Act.put, List.setIfInBounds_toArray, List.set_cons_zero, List.set_cons_succ]
          refine wpAnyH_done (by kernel_rfl) ?_ _
          obtain ⟨U2, c2, t2, r2, own2, yj1'⟩ := hHeld
          have fc2 := cellB c2
          have ft2 := cellB t2
          have fr2 := cellB r2
          go_wp2_with fail
          refine (HBg.out _ U2).mono ?_
          rintro e w4 ⟨rfl, v4⟩
          have yj2 := (v4.facts.1 b _ (World.block_lt_of_cell? _ _ yj1')).trans yj1'
          have U4 := U2.trans v4
          have c4 := v4.blk c2
          have t4 := v4.blk t2
          have r4 := v4.blk r2
          have own4 := own_up own2 v4
          have fc4 := cellB c4
          have ft4 := cellB t4
          have fr4 := cellB r4
          clear v4 U2 c2 t2 r2 own2 fc2 ft2 fr2
          go_wp2_with fail
          refine wp_region_held_drew (S := (fun w' => Up w w' ∧ mblk w' w.heap.size = some (.cells #[.int .i64 h, .int .i64 m, .int .i64 s, .int .i64 N, .slice a n c] 24 (0, 0)) ∧ mblk w' (w.heap.size + 1) = some (.cells #[.int .i64 ah, .slice (some ⟨b, off, none⟩) n' c'] 44 (0, 0)) ∧ mblk w' (w.heap.size + 1 + 1) = some (.cells #[.int .i64 p0, .int .i64 p1, .int .i64 p2, .int .i64 p3] 27 (0, 0)) ∧ w'.ownsRow (w.heap.size + 1 + 1 + 1) 3 1 ov (D.hits tv ok X 0).length ((D.hits tv ok X 0).map (Value.int .i64)))) (by kernel_rfl) ⟨U4.drew, by rw [blk_drew]; exact c4, by rw [blk_drew]; exact t4, by rw [blk_drew]; exact r4, own_up own4 (Up.refl _).drew⟩ (fun hHeld => ?_)
          clear U4 c4 t4 r4 own4 fc4 ft4 fr4
          refine takeH (i := 0) (d := (some 58)) (v := ?v17) rfl rfl (by kernel_rfl) (by kernel_rfl) (by kernel_rfl) (fun _ _ _ h => h) (by rfl) ?hy17 (by assumption) ?_
          case hy17 => ((intro w hSw; (try dsimp only at hSw); (try go_split_ands); go_simp); try with_reducible rfl)
          simp only [Act.put, List.setIfInBounds_toArray, List.set_cons_zero, List.set_cons_succ]
          refine takeH (i := 1) (d := (some 59)) (v := ?v18) rfl rfl (by kernel_rfl) (by kernel_rfl) (by kernel_rfl) (fun _ _ _ h => h) (by rfl) ?hy18 (by assumption) ?_
          case hy18 => ((intro w hSw; (try dsimp only at hSw); (try go_split_ands); go_simp); try with_reducible rfl)
          simp only [Act.put, List.setIfInBounds_toArray, List.set_cons_zero, List.set_cons_succ]
          refine takeH (i := 2) (d := (some 60)) (v := ?v19) rfl rfl (by kernel_rfl) (by kernel_rfl) (by kernel_rfl) (fun _ _ _ h => h) (by rfl) ?hy19 (by assumption) ?_
          case hy19 => ((intro w hSw; (try dsimp only at hSw); (try go_split_ands); go_simp); try with_reducible rfl)
          simp only [Act.put, List.setIfInBounds_toArray, List.set_cons_zero, List.set_cons_succ]
          refine takeH (i := 3) (d := (some 61)) (v := ?v20) rfl rfl (by kernel_rfl) (by kernel_rfl) (by kernel_rfl) (fun _ _ _ h => h) (by rfl) ?hy20 (by assumption) ?_
          case hy20 => ((intro w hSw; (try dsimp only at hSw); (try go_split_ands); go_simp); try with_reducible rfl)
          simp only [Act.put, List.setIfInBounds_toArray, List.set_cons_zero, List.set_cons_succ]
          refine takeH (i := 4) (d := (some 62)) (v := ?v21) rfl rfl (by kernel_rfl) (by kernel_rfl) (by kernel_rfl) (fun _ _ _ h => h) (by rfl) ?hy21 (by assumption) ?_
          case hy21 => ((intro w hSw; (try dsimp only at hSw); (try go_split_ands); go_simp); try with_reducible rfl)
          simp only [Act.put, List.setIfInBounds_toArray, List.set_cons_zero, List.set_cons_succ]
          refine wpAnyH_ready (rs := [5]) (by kernel_rfl) (by simp) ?_
          refine AllReadyH.cons rfl (fun K hK => ?_) AllReadyH.nil
          go_simp
          refine (HM.out _).mono ?_
          rintro e w5 ⟨rfl, v5⟩
          go_wp2_with fail
          refine hK.out _ _ ⟨hHeld.1.trans v5, v5.blk hHeld.2.1, v5.blk hHeld.2.2.1, v5.blk hHeld.2.2.2.1, own_up hHeld.2.2.2.2 v5⟩ (fun hHeld => ?_)
          clear hK K v5
          refine wpAnyH_ready (rs := [6]) (by kernel_rfl) (by simp) ?_
          refine AllReadyH.cons rfl (fun K hK => ?_) AllReadyH.nil
          go_simp
          refine (HT.out _ hHeld.1).mono ?_
          rintro e w6 ⟨rfl, v6⟩
          go_wp2_with fail
          refine hK.out _ _ ⟨hHeld.1.trans v6, v6.blk hHeld.2.1, v6.blk hHeld.2.2.1, v6.blk hHeld.2.2.2.1, own_up hHeld.2.2.2.2 v6⟩ (fun hHeld => ?_)
          clear hK K v6
          refine takeH (i := 7) (d := (some 12)) (v := ?v24) rfl rfl (by kernel_rfl) (by kernel_rfl) (by kernel_rfl) (fun _ _ _ h => h) (by rfl) ?hy24 (by assumption) ?_
          case hy24 => ((intro w hSw; (try dsimp only at hSw); (try go_split_ands); go_simp); try with_reducible rfl)
          simp only [Act.put, List.setIfInBounds_toArray, List.set_cons_zero, List.set_cons_succ]
          refine wpAnyH_done (by kernel_rfl) ?_ _
          obtain ⟨U7, c7, t7, r7, own7⟩ := hHeld
          have fc7 := cellB c7
          have ft7 := cellB t7
          have fr7 := cellB r7
          clear HM HT HPr HBg
          by_cases hit : 0 ≤ nj ∧ nj < x1
          · have h3 : Hid (D.hits tv ok X (0 + 1) = D.hits tv ok X (0) ++ [nj]) := by show _ = _; rw [HJ.out, if_pos hit]
            obtain ⟨hi1, hi2⟩ := hit
            have lo7 := HLn.out
            have own7' := own7
            go_wp2_with (at_builtin; refine wpList_append_own _ rfl (.tmp 73) (.tmp 75) 49 rfl (w.heap.size + 1 + 1 + 1) 3 i0 (.int .i64 0) 1 8 Try.underlying49 hin hz0 hz1 hz2 rfl (by decide) _ _ _ rfl (own7.alloc _) ⟨_, 0, none⟩ 1 1 [.int .i64 nj] rfl rfl (cell_one_at _ _ _ _ rfl) (by simp [Value.oneCell']) (by unfold maxLen; omega) (by omega) (by have := U7.size; have := blk_lt r7; simp; omega) ?_; intro v' w8 own8 hgrow8 _)
            have c8 := grown_blk hgrow8 (blk_keep _ c7) (own_ne own7' (by omega))
            have t8 := grown_blk hgrow8 (blk_keep _ t7) (own_ne own7' (by omega))
            have r8 := grown_blk hgrow8 (blk_keep _ r7) (own_ne own7' (by omega))
            have U8 := (U7.alloc _).grown hgrow8 (fun j hj => by have := own_block own7' hj; omega)
            clear hgrow8 own7 own7' c7 t7 r7 U7 fc7 ft7 fr7
            go_wp2
            go_roundw
            case rel => exact ⟨0 + 1, ((0 + 1 : Nat) : Int) - 1, _, rfl, by omega, rfl, by first | go_num | simp, c8, t8, r8, by rw [h3.out, List.length_append, List.map_append]; exact own8, U8⟩
            case measure => simp [intOf]; omega
          · have h3 : Hid (D.hits tv ok X (0 + 1) = D.hits tv ok X (0)) := by show _ = _; rw [HJ.out, if_neg hit, List.append_nil]
            by_cases lo : 0 ≤ nj
            · have hi2 : ¬ (nj < x1) := fun q => hit ⟨lo, q⟩
              clear hit HJ
              go_wp2
              go_roundw
              case rel => exact ⟨0 + 1, ((0 + 1 : Nat) : Int) - 1, _, rfl, by omega, rfl, by first | go_num | simp, c7, t7, r7, by rw [h3.out]; exact own7, U7⟩
              case measure => simp [intOf]; omega
            · skip
              clear hit HJ
              go_wp2
              go_roundw
              case rel => exact ⟨0 + 1, ((0 + 1 : Nat) : Int) - 1, _, rfl, by omega, rfl, by first | go_num | simp, c7, t7, r7, by rw [h3.out]; exact own7, U7⟩
              case measure => simp [intOf]; omega
      · by_cases hla : j = n'
        · obtain ⟨b, off, rfl, hC⟩ := HB.out _ Uj (by omega)
          have hbl := hC.lt
          obtain ⟨e1, e2, e3⟩ := HPer.out j (by rw [← HN.out]; omega)
          obtain ⟨q, rfl⟩ : ∃ q, j = q + 1 := ⟨j - 1, by omega⟩
          obtain rfl : i = (q : Int) := by omega
          rw [if_neg (by omega), Nat.add_sub_cancel] at e1 e3
          rw [if_pos (by rw [← HN.out]; omega)] at e2
          have yq1 := hC.tick q (by rw [← HN.out]; omega)
          have yq2 := hC.ahead q (by rw [← HN.out]; omega)
          have bq := HMb.out q (by rw [← HN.out]; omega)
          generalize M.getD q (0, 0) = zz at *
          obtain ⟨z1, z2⟩ := zz
          simp only at yq1 yq2 bq e1 e3
          have hh := HRR.out _ _ _ _ e1 e2 e3 (by omega) (by omega) (by omega) (by omega)
          have HM := Lib.hid (HMv.out (-z2) (by omega) (by omega))
          have HT := Lib.hid (HTo.out ((u + -z2) / (h * m)) ((u + -z2) % (h * m) / m) ((u + -z2) % (h * m) % m))
          have en : IntKind.i64.wrap (-z2) = -z2 := IntWalk.i64_in _ (by omega)
          generalize (u + -z2) / (h * m) = A1 at *
          generalize (u + -z2) % (h * m) / m = A2 at *
          generalize (u + -z2) % (h * m) % m = A3 at *
          obtain ⟨nj, hnj⟩ : ∃ nj, tof A1 A2 A3 p3 = nj := ⟨_, rfl⟩
          rw [hnj] at hh HT
          have hHj := HHit.out (q + 1)
          rw [hh] at hHj
          have hLen := hHL (q + 1)
          have eq9 : IntKind.i64.wrap ((q : Int) + 1) = (q : Int) + 1 := IntWalk.i64_in _ (by omega)
          have HJ := Lib.hid hHj
          have HLn := Lib.hid hLen
          clear hh hHj hLen e1 e2 e3 hnj HPer HRR HHit HMv HTo HMb HB
          have lt9 : ¬ ((q : Int) + 1 < (n' : Int)) := by omega
          clear hla hf hi hend bq
          go_wp2_with fail
          refine (HPr.out _).mono ?_
          rintro e w1 ⟨rfl, v1⟩
          have yq1' := (v1.facts.1 b _ hbl).trans yq1
          have yq2' := (v1.facts.1 b _ hbl).trans yq2
          clear yq1 yq2
          have hbl1 := Nat.lt_of_lt_of_le hbl v1.size
          clear hbl hC
          have U1 := Uj.trans v1
          have c1 := v1.blk cj
          have t1 := v1.blk tj
          have r1 := v1.blk rj
          have own1 := own_up ownj v1
          have fc1 := cellB c1
          have ft1 := cellB t1
          have fr1 := cellB r1
          clear v1 Uj cj tj rj ownj fcj ftj frj
          go_wp2_with fail
          refine wp_region_held_drew (S := (fun w' => Up w w' ∧ mblk w' w.heap.size = some (.cells #[.int .i64 h, .int .i64 m, .int .i64 s, .int .i64 N, .slice a n c] 24 (0, 0)) ∧ mblk w' (w.heap.size + 1) = some (.cells #[.int .i64 ah, .slice (some ⟨b, off, none⟩) n' c'] 44 (0, 0)) ∧ mblk w' (w.heap.size + 1 + 1) = some (.cells #[.int .i64 p0, .int .i64 p1, .int .i64 p2, .int .i64 p3] 27 (0, 0)) ∧ w'.ownsRow (w.heap.size + 1 + 1 + 1) 3 1 ov (D.hits tv ok X (q + 1)).length ((D.hits tv ok X (q + 1)).map (Value.int .i64)) ∧ w'.cell? ⟨b, off + q * 2, none⟩ = some (.int .i64 z1) ∧ w'.cell? ⟨b, off + q * 2 + 1, none⟩ = some (.int .i64 z2))) (by kernel_rfl) ⟨U1.drew, by rw [blk_drew]; exact c1, by rw [blk_drew]; exact t1, by rw [blk_drew]; exact r1, own_up own1 (Up.refl _).drew, yq1', yq2'⟩ (fun hHeld => ?_)
          clear U1 c1 t1 r1 own1 fc1 ft1 fr1
          clear yq1' yq2'
          refine takeH (i := 0) (d := (some 25)) (v := ?v25) rfl rfl (by kernel_rfl) (by kernel_rfl) (by kernel_rfl) (fun _ _ _ h => h) (by rfl) ?hy25 (by assumption) ?_
          case hy25 => ((intro w hSw; (try dsimp only at hSw); (try go_split_ands); go_simp); try with_reducible rfl)
          simp only [Act.put, List.setIfInBounds_toArray, List.set_cons_zero, List.set_cons_succ]
          refine takeH (i := 2) (d := (some 9)) (v := ?v26) rfl rfl (by kernel_rfl) (by kernel_rfl) (by kernel_rfl) (fun _ _ _ h => h) (by rfl) ?hy26 (by assumption) ?_
          case hy26 => ((intro w hSw; (try dsimp only at hSw); (try go_split_ands); go_simp); try with_reducible rfl)
          simp only [Act.put, List.setIfInBounds_toArray, List.set_cons_zero, List.set_cons_succ]
          refine takeH (i := 1) (d := (some 26)) (v := ?v27) rfl rfl (by kernel_rfl) (by kernel_rfl) (by kernel_rfl) (fun _ _ _ h => h) (by rfl) ?hy27 (by assumption) ?_
          case hy27 => ((intro w hSw; (try dsimp only at hSw); (try go_split_ands); go_simp); try with_reducible rfl)
          simp only [Act.put, List.setIfInBounds_toArray, List.set_cons_zero, List.set_cons_succ]
          refine takeH (i := 3) (d := (some 10)) (v := ?v28) rfl rfl (by kernel_rfl) (by kernel_rfl) (by kernel_rfl) (fun _ _ _ h => h) (by rfl) ?hy28 (by assumption) ?_
          case hy28 => ((intro w hSw; (try dsimp only at hSw); (try go_split_ands); go_simp); try with_reducible rfl)
          simp only [Act.put, List.setIfInBounds_toArray, List.set_cons_zero, List.set_cons_succ]
          refine wpAnyH_done (by kernel_rfl) ?_ _
          obtain ⟨U2, c2, t2, r2, own2, yq1', yq2'⟩ := hHeld
          have fc2 := cellB c2
          have ft2 := cellB t2
          have fr2 := cellB r2
          go_wp2_with fail
          refine wp_region_held_drew (S := (fun w' => Up w w' ∧ mblk w' w.heap.size = some (.cells #[.int .i64 h, .int .i64 m, .int .i64 s, .int .i64 N, .slice a n c] 24 (0, 0)) ∧ mblk w' (w.heap.size + 1) = some (.cells #[.int .i64 ah, .slice (some ⟨b, off, none⟩) n' c'] 44 (0, 0)) ∧ mblk w' (w.heap.size + 1 + 1) = some (.cells #[.int .i64 p0, .int .i64 p1, .int .i64 p2, .int .i64 p3] 27 (0, 0)) ∧ w'.ownsRow (w.heap.size + 1 + 1 + 1) 3 1 ov (D.hits tv ok X (q + 1)).length ((D.hits tv ok X (q + 1)).map (Value.int .i64)) ∧ w'.cell? ⟨b, off + q * 2, none⟩ = some (.int .i64 z1) ∧ w'.cell? ⟨b, off + q * 2 + 1, none⟩ = some (.int .i64 z2))) (by kernel_rfl) ⟨U2.drew, by rw [blk_drew]; exact c2, by rw [blk_drew]; exact t2, by rw [blk_drew]; exact r2, own_up own2 (Up.refl _).drew, yq1', yq2'⟩ (fun hHeld => ?_)
          clear U2 c2 t2 r2 own2 fc2 ft2 fr2
          clear yq1' yq2'
          refine takeH (i := 0) (d := (some 29)) (v := ?v29) rfl rfl (by kernel_rfl) (by kernel_rfl) (by kernel_rfl) (fun _ _ _ h => h) (by rfl) ?hy29 (by assumption) ?_
          case hy29 => ((intro w hSw; (try dsimp only at hSw); (try go_split_ands); go_simp); try with_reducible rfl)
          simp only [Act.put, List.setIfInBounds_toArray, List.set_cons_zero, List.set_cons_succ]
          refine takeH (i := 2) (d := (some 31)) (v := ?v30) rfl rfl (by kernel_rfl) (by kernel_rfl) (by kernel_rfl) (fun _ _ _ h => h) (by rfl) ?hy30 (by assumption) ?_
          case hy30 => ((intro w hSw; (try dsimp only at hSw); (try go_split_ands); go_simp); try with_reducible rfl)
          simp only [Act.put, List.setIfInBounds_toArray, List.set_cons_zero, List.set_cons_succ]
          refine takeH (i := 6) (d := (some 35)) (v := ?v31) rfl rfl (by kernel_rfl) (by kernel_rfl) (by kernel_rfl) (fun _ _ _ h => h) (by rfl) ?hy31 (by assumption) ?_
          case hy31 => ((intro w hSw; (try dsimp only at hSw); (try go_split_ands); go_simp); try with_reducible rfl)
          simp only [Act.put, List.setIfInBounds_toArray, List.set_cons_zero, List.set_cons_succ]
          refine takeH (i := 8) (d := (some 37)) (v := ?v32) rfl rfl (by kernel_rfl) (by kernel_rfl) (by kernel_rfl) (fun _ _ _ h => h) (by rfl) ?hy32 (by assumption) ?_
          case hy32 => ((intro w hSw; (try dsimp only at hSw); (try go_split_ands); go_simp); try with_reducible rfl)
          simp only [Act.put, List.setIfInBounds_toArray, List.set_cons_zero, List.set_cons_succ]
          refine takeH (i := 1) (d := (some 30)) (v := ?v33) rfl rfl (by kernel_rfl) (by kernel_rfl) (by kernel_rfl) (fun _ _ _ h => h) (by rfl) ?hy33 (by assumption) ?_
          case hy33 => ((intro w hSw; (try dsimp only at hSw); (try go_split_ands); go_simp); try with_reducible rfl)
          simp only [Act.put, List.setIfInBounds_toArray, List.set_cons_zero, List.set_cons_succ]
          refine takeH (i := 7) (d := (some 36)) (v := ?v34) rfl rfl (by kernel_rfl) (by kernel_rfl) (by kernel_rfl) (fun _ _ _ h => h) (by rfl) ?hy34 (by assumption) ?_
          case hy34 => ((intro w hSw; (try dsimp only at hSw); (try go_split_ands); go_simp); try with_reducible rfl)
          simp only [Act.put, List.setIfInBounds_toArray, List.set_cons_zero, List.set_cons_succ]
          refine takeH (i := 3) (d := (some 32)) (v := ?v35) rfl rfl (by kernel_rfl) (by kernel_rfl) (by kernel_rfl) (fun _ _ _ h => h) (by rfl) ?hy35 (by assumption) ?_
          case hy35 => ((intro w hSw; (try dsimp only at hSw); (try go_split_ands); go_simp); try with_reducible rfl)
          simp only [Act.put, List.setIfInBounds_toArray, List.set_cons_zero, List.set_cons_succ]
          refine takeH (i := 9) (d := (some 38)) (v := ?v36) rfl rfl (by kernel_rfl) (by kernel_rfl) (by kernel_rfl) (fun _ _ _ h => h) (by rfl) ?hy36 (by assumption) ?_
          case hy36 => ((intro w hSw; (try dsimp only at hSw); (try go_split_ands); go_simp); try with_reducible rfl)
          simp only [Act.put, List.setIfInBounds_toArray, List.set_cons_zero, List.set_cons_succ]
          refine takeH (i := 4) (d := (some 33)) (v := ?v37) rfl rfl (by kernel_rfl) (by kernel_rfl) (by kernel_rfl) (fun _ _ _ h => h) (by rfl) ?hy37 (by assumption) ?_
          case hy37 => ((intro w hSw; (try dsimp only at hSw); (try go_split_ands); go_simp); try with_reducible rfl)
          simp only [Act.put, List.setIfInBounds_toArray, List.set_cons_zero, List.set_cons_succ]
          refine takeH (i := 10) (d := (some 39)) (v := ?v38) rfl rfl (by kernel_rfl) (by kernel_rfl) (by kernel_rfl) (fun _ _ _ h => h) (by rfl) ?hy38 (by assumption) ?_
          case hy38 => ((intro w hSw; (try dsimp only at hSw); (try go_split_ands); go_simp); try with_reducible rfl)
          simp only [Act.put, List.setIfInBounds_toArray, List.set_cons_zero, List.set_cons_succ]
          refine takeH (i := 5) (d := (some 34)) (v := ?v39) rfl rfl (by kernel_rfl) (by kernel_rfl) (by kernel_rfl) (fun _ _ _ h => h) (by rfl) ?hy39 (by assumption) ?_
          case hy39 => ((intro w hSw; (try dsimp only at hSw); (try go_split_ands); go_simp); try with_reducible rfl)
          simp only [Act.put, List.setIfInBounds_toArray, List.set_cons_zero, List.set_cons_succ]
          refine takeH (i := 11) (d := (some 40)) (v := ?v40) rfl rfl (by kernel_rfl) (by kernel_rfl) (by kernel_rfl) (fun _ _ _ h => h) (by rfl) ?hy40 (by assumption) ?_
          case hy40 => ((intro w hSw; (try dsimp only at hSw); (try go_split_ands); go_simp); try with_reducible rfl)
          simp only [Act.put, List.setIfInBounds_toArray, List.set_cons_zero, List.set_cons_succ]
          refine takeH (i := 12) (d := (some 9)) (v := ?v41) rfl rfl (by kernel_rfl) (by kernel_rfl) (by kernel_rfl) (fun _ _ _ h => h) (by rfl) ?hy41 (by assumption) ?_
          case hy41 => ((intro w hSw; (try dsimp only at hSw); (try go_split_ands); go_simp); try with_reducible rfl)
          simp only [Act.put, List.setIfInBounds_toArray, List.set_cons_zero, List.set_cons_succ]
          refine takeH (i := 13) (d := (some 10)) (v := ?v42) rfl rfl (by kernel_rfl) (by kernel_rfl) (by kernel_rfl) (fun _ _ _ h => h) (by rfl) ?hy42 (by assumption) ?_
          case hy42 => ((intro w hSw; (try dsimp only at hSw); (try go_split_ands); go_simp); try with_reducible rfl)
          simp only [Act.put, List.setIfInBounds_toArray, List.set_cons_zero, List.set_cons_succ]
          refine wpAnyH_done (by kernel_rfl) ?_ _
          obtain ⟨U3, c3, t3, r3, own3, yq1', yq2'⟩ := hHeld
          have fc3 := cellB c3
          have ft3 := cellB t3
          have fr3 := cellB r3
          go_wp2_with fail
          refine (HBg.out _ U3).mono ?_
          rintro e w4 ⟨rfl, v4⟩
          have U4 := U3.trans v4
          have c4 := v4.blk c3
          have t4 := v4.blk t3
          have r4 := v4.blk r3
          have own4 := own_up own3 v4
          have fc4 := cellB c4
          have ft4 := cellB t4
          have fr4 := cellB r4
          clear v4 U3 c3 t3 r3 own3 fc3 ft3 fr3
          go_wp2_with fail
          refine wp_region_held_drew (S := (fun w' => Up w w' ∧ mblk w' w.heap.size = some (.cells #[.int .i64 h, .int .i64 m, .int .i64 s, .int .i64 N, .slice a n c] 24 (0, 0)) ∧ mblk w' (w.heap.size + 1) = some (.cells #[.int .i64 ah, .slice (some ⟨b, off, none⟩) n' c'] 44 (0, 0)) ∧ mblk w' (w.heap.size + 1 + 1) = some (.cells #[.int .i64 p0, .int .i64 p1, .int .i64 p2, .int .i64 p3] 27 (0, 0)) ∧ w'.ownsRow (w.heap.size + 1 + 1 + 1) 3 1 ov (D.hits tv ok X (q + 1)).length ((D.hits tv ok X (q + 1)).map (Value.int .i64)))) (by kernel_rfl) ⟨U4.drew, by rw [blk_drew]; exact c4, by rw [blk_drew]; exact t4, by rw [blk_drew]; exact r4, own_up own4 (Up.refl _).drew⟩ (fun hHeld => ?_)
          clear U4 c4 t4 r4 own4 fc4 ft4 fr4
          refine takeH (i := 0) (d := (some 58)) (v := ?v43) rfl rfl (by kernel_rfl) (by kernel_rfl) (by kernel_rfl) (fun _ _ _ h => h) (by rfl) ?hy43 (by assumption) ?_
          case hy43 => ((intro w hSw; (try dsimp only at hSw); (try go_split_ands); go_simp); try with_reducible rfl)
          simp only [Act.put, List.setIfInBounds_toArray, List.set_cons_zero, List.set_cons_succ]
          refine takeH (i := 1) (d := (some 59)) (v := ?v44) rfl rfl (by kernel_rfl) (by kernel_rfl) (by kernel_rfl) (fun _ _ _ h => h) (by rfl) ?hy44 (by assumption) ?_
          case hy44 => ((intro w hSw; (try dsimp only at hSw); (try go_split_ands); go_simp); try with_reducible rfl)
          simp only [Act.put, List.setIfInBounds_toArray, List.set_cons_zero, List.set_cons_succ]
          refine takeH (i := 2) (d := (some 60)) (v := ?v45) rfl rfl (by kernel_rfl) (by kernel_rfl) (by kernel_rfl) (fun _ _ _ h => h) (by rfl) ?hy45 (by assumption) ?_
          case hy45 => ((intro w hSw; (try dsimp only at hSw); (try go_split_ands); go_simp); try with_reducible rfl)
          simp only [Act.put, List.setIfInBounds_toArray, List.set_cons_zero, List.set_cons_succ]
          refine takeH (i := 3) (d := (some 61)) (v := ?v46) rfl rfl (by kernel_rfl) (by kernel_rfl) (by kernel_rfl) (fun _ _ _ h => h) (by rfl) ?hy46 (by assumption) ?_
          case hy46 => ((intro w hSw; (try dsimp only at hSw); (try go_split_ands); go_simp); try with_reducible rfl)
          simp only [Act.put, List.setIfInBounds_toArray, List.set_cons_zero, List.set_cons_succ]
          refine takeH (i := 4) (d := (some 62)) (v := ?v47) rfl rfl (by kernel_rfl) (by kernel_rfl) (by kernel_rfl) (fun _ _ _ h => h) (by rfl) ?hy47 (by assumption) ?_
          case hy47 => ((intro w hSw; (try dsimp only at hSw); (try go_split_ands); go_simp); try with_reducible rfl)
          simp only [Act.put, List.setIfInBounds_toArray, List.set_cons_zero, List.set_cons_succ]
          refine wpAnyH_ready (rs := [5]) (by kernel_rfl) (by simp) ?_
          refine AllReadyH.cons rfl (fun K hK => ?_) AllReadyH.nil
          go_simp
          refine (HM.out _).mono ?_
          rintro e w5 ⟨rfl, v5⟩
          go_wp2_with fail
          refine hK.out _ _ ⟨hHeld.1.trans v5, v5.blk hHeld.2.1, v5.blk hHeld.2.2.1, v5.blk hHeld.2.2.2.1, own_up hHeld.2.2.2.2 v5⟩ (fun hHeld => ?_)
          clear hK K v5
          refine wpAnyH_ready (rs := [6]) (by kernel_rfl) (by simp) ?_
          refine AllReadyH.cons rfl (fun K hK => ?_) AllReadyH.nil
          go_simp
          refine (HT.out _ hHeld.1).mono ?_
          rintro e w6 ⟨rfl, v6⟩
          go_wp2_with fail
          refine hK.out _ _ ⟨hHeld.1.trans v6, v6.blk hHeld.2.1, v6.blk hHeld.2.2.1, v6.blk hHeld.2.2.2.1, own_up hHeld.2.2.2.2 v6⟩ (fun hHeld => ?_)
          clear hK K v6
          refine takeH (i := 7) (d := (some 12)) (v := ?v50) rfl rfl (by kernel_rfl) (by kernel_rfl) (by kernel_rfl) (fun _ _ _ h => h) (by rfl) ?hy50 (by assumption) ?_
          case hy50 => ((intro w hSw; (try dsimp only at hSw); (try go_split_ands); go_simp); try with_reducible rfl)
          simp only [Act.put, List.setIfInBounds_toArray, List.set_cons_zero, List.set_cons_succ]
          refine wpAnyH_done (by kernel_rfl) ?_ _
          obtain ⟨U7, c7, t7, r7, own7⟩ := hHeld
          have fc7 := cellB c7
          have ft7 := cellB t7
          have fr7 := cellB r7
          clear HM HT HPr HBg
          by_cases hit : z1 ≤ nj ∧ nj < T
          · have h3 : Hid (D.hits tv ok X (q + 1 + 1) = D.hits tv ok X (q + 1) ++ [nj]) := by show _ = _; rw [HJ.out, if_pos hit]
            obtain ⟨hi1, hi2⟩ := hit
            have lo7 := HLn.out
            have own7' := own7
            go_wp2_with (at_builtin; refine wpList_append_own _ rfl (.tmp 73) (.tmp 75) 49 rfl (w.heap.size + 1 + 1 + 1) 3 i0 (.int .i64 0) 1 8 Try.underlying49 hin hz0 hz1 hz2 rfl (by decide) _ _ _ rfl (own7.alloc _) ⟨_, 0, none⟩ 1 1 [.int .i64 nj] rfl rfl (cell_one_at _ _ _ _ rfl) (by simp [Value.oneCell']) (by unfold maxLen; omega) (by omega) (by have := U7.size; have := blk_lt r7; simp; omega) ?_; intro v' w8 own8 hgrow8 _)
            have c8 := grown_blk hgrow8 (blk_keep _ c7) (own_ne own7' (by omega))
            have t8 := grown_blk hgrow8 (blk_keep _ t7) (own_ne own7' (by omega))
            have r8 := grown_blk hgrow8 (blk_keep _ r7) (own_ne own7' (by omega))
            have U8 := (U7.alloc _).grown hgrow8 (fun j hj => by have := own_block own7' hj; omega)
            clear hgrow8 own7 own7' c7 t7 r7 U7 fc7 ft7 fr7
            go_wp2
            go_roundw
            case rel => exact ⟨q + 1 + 1, ((q + 1 + 1 : Nat) : Int) - 1, _, rfl, by omega, rfl, by first | go_num | simp, c8, t8, r8, by rw [h3.out, List.length_append, List.map_append]; exact own8, U8⟩
            case measure => simp [intOf]; omega
          · have h3 : Hid (D.hits tv ok X (q + 1 + 1) = D.hits tv ok X (q + 1)) := by show _ = _; rw [HJ.out, if_neg hit, List.append_nil]
            by_cases lo : z1 ≤ nj
            · have hi2 : ¬ (nj < T) := fun q => hit ⟨lo, q⟩
              clear hit HJ
              go_wp2
              go_roundw
              case rel => exact ⟨q + 1 + 1, ((q + 1 + 1 : Nat) : Int) - 1, _, rfl, by omega, rfl, by first | go_num | simp, c7, t7, r7, by rw [h3.out]; exact own7, U7⟩
              case measure => simp [intOf]; omega
            · skip
              clear hit HJ
              go_wp2
              go_roundw
              case rel => exact ⟨q + 1 + 1, ((q + 1 + 1 : Nat) : Int) - 1, _, rfl, by omega, rfl, by first | go_num | simp, c7, t7, r7, by rw [h3.out]; exact own7, U7⟩
              case measure => simp [intOf]; omega
        · obtain ⟨b, off, rfl, hC⟩ := HB.out _ Uj (by omega)
          have hbl := hC.lt
          obtain ⟨e1, e2, e3⟩ := HPer.out j (by rw [← HN.out]; omega)
          obtain ⟨q, rfl⟩ : ∃ q, j = q + 1 := ⟨j - 1, by omega⟩
          obtain rfl : i = (q : Int) := by omega
          rw [if_neg (by omega), Nat.add_sub_cancel] at e1 e3
          rw [if_neg (by rw [← HN.out]; omega)] at e2
          have yq1 := hC.tick q (by rw [← HN.out]; omega)
          have yq2 := hC.ahead q (by rw [← HN.out]; omega)
          have bq := HMb.out q (by rw [← HN.out]; omega)
          generalize M.getD q (0, 0) = zz at *
          obtain ⟨z1, z2⟩ := zz
          simp only at yq1 yq2 bq e1 e3
          have yj1 := hC.tick (q + 1) (by rw [← HN.out]; omega)
          have bj := HMb.out (q + 1) (by rw [← HN.out]; omega)
          generalize M.getD (q + 1) (0, 0) = xx at *
          obtain ⟨x1, x2⟩ := xx
          simp only at yj1 bj e2
          have hh := HRR.out _ _ _ _ e1 e2 e3 (by omega) (by omega) (by omega) (by omega)
          have HM := Lib.hid (HMv.out (-z2) (by omega) (by omega))
          have HT := Lib.hid (HTo.out ((u + -z2) / (h * m)) ((u + -z2) % (h * m) / m) ((u + -z2) % (h * m) % m))
          have en : IntKind.i64.wrap (-z2) = -z2 := IntWalk.i64_in _ (by omega)
          generalize (u + -z2) / (h * m) = A1 at *
          generalize (u + -z2) % (h * m) / m = A2 at *
          generalize (u + -z2) % (h * m) % m = A3 at *
          obtain ⟨nj, hnj⟩ : ∃ nj, tof A1 A2 A3 p3 = nj := ⟨_, rfl⟩
          rw [hnj] at hh HT
          have hHj := HHit.out (q + 1)
          rw [hh] at hHj
          have hLen := hHL (q + 1)
          have eq9 : IntKind.i64.wrap ((q : Int) + 1) = (q : Int) + 1 := IntWalk.i64_in _ (by omega)
          have HJ := Lib.hid hHj
          have HLn := Lib.hid hLen
          clear hh hHj hLen e1 e2 e3 hnj HPer HRR HHit HMv HTo HMb HB
          have lt9 : ((q : Int) + 1 < (n' : Int)) := by omega
          clear hla hf hi hend bq bj
          go_wp2_with fail
          refine (HPr.out _).mono ?_
          rintro e w1 ⟨rfl, v1⟩
          have yq1' := (v1.facts.1 b _ hbl).trans yq1
          have yq2' := (v1.facts.1 b _ hbl).trans yq2
          clear yq1 yq2
          have yj1' := (v1.facts.1 b _ hbl).trans yj1
          clear yj1
          have hbl1 := Nat.lt_of_lt_of_le hbl v1.size
          clear hbl hC
          have U1 := Uj.trans v1
          have c1 := v1.blk cj
          have t1 := v1.blk tj
          have r1 := v1.blk rj
          have own1 := own_up ownj v1
          have fc1 := cellB c1
          have ft1 := cellB t1
          have fr1 := cellB r1
          clear v1 Uj cj tj rj ownj fcj ftj frj
          go_wp2_with fail
          refine wp_region_held_drew (S := (fun w' => Up w w' ∧ mblk w' w.heap.size = some (.cells #[.int .i64 h, .int .i64 m, .int .i64 s, .int .i64 N, .slice a n c] 24 (0, 0)) ∧ mblk w' (w.heap.size + 1) = some (.cells #[.int .i64 ah, .slice (some ⟨b, off, none⟩) n' c'] 44 (0, 0)) ∧ mblk w' (w.heap.size + 1 + 1) = some (.cells #[.int .i64 p0, .int .i64 p1, .int .i64 p2, .int .i64 p3] 27 (0, 0)) ∧ w'.ownsRow (w.heap.size + 1 + 1 + 1) 3 1 ov (D.hits tv ok X (q + 1)).length ((D.hits tv ok X (q + 1)).map (Value.int .i64)) ∧ w'.cell? ⟨b, off + q * 2, none⟩ = some (.int .i64 z1) ∧ w'.cell? ⟨b, off + q * 2 + 1, none⟩ = some (.int .i64 z2) ∧ w'.cell? ⟨b, off + (q + 1) * 2, none⟩ = some (.int .i64 x1))) (by kernel_rfl) ⟨U1.drew, by rw [blk_drew]; exact c1, by rw [blk_drew]; exact t1, by rw [blk_drew]; exact r1, own_up own1 (Up.refl _).drew, yq1', yq2', yj1'⟩ (fun hHeld => ?_)
          clear U1 c1 t1 r1 own1 fc1 ft1 fr1
          clear yq1' yq2'
          clear yj1'
          refine takeH (i := 0) (d := (some 25)) (v := ?v51) rfl rfl (by kernel_rfl) (by kernel_rfl) (by kernel_rfl) (fun _ _ _ h => h) (by rfl) ?hy51 (by assumption) ?_
          case hy51 => ((intro w hSw; (try dsimp only at hSw); (try go_split_ands); go_simp); try with_reducible rfl)
          simp only [Act.put, List.setIfInBounds_toArray, List.set_cons_zero, List.set_cons_succ]
          refine takeH (i := 2) (d := (some 9)) (v := ?v52) rfl rfl (by kernel_rfl) (by kernel_rfl) (by kernel_rfl) (fun _ _ _ h => h) (by rfl) ?hy52 (by assumption) ?_
          case hy52 => ((intro w hSw; (try dsimp only at hSw); (try go_split_ands); go_simp); try with_reducible rfl)
          simp only [Act.put, List.setIfInBounds_toArray, List.set_cons_zero, List.set_cons_succ]
          refine takeH (i := 1) (d := (some 26)) (v := ?v53) rfl rfl (by kernel_rfl) (by kernel_rfl) (by kernel_rfl) (fun _ _ _ h => h) (by rfl) ?hy53 (by assumption) ?_
          case hy53 => ((intro w hSw; (try dsimp only at hSw); (try go_split_ands); go_simp); try with_reducible rfl)
          simp only [Act.put, List.setIfInBounds_toArray, List.set_cons_zero, List.set_cons_succ]
          refine takeH (i := 3) (d := (some 10)) (v := ?v54) rfl rfl (by kernel_rfl) (by kernel_rfl) (by kernel_rfl) (fun _ _ _ h => h) (by rfl) ?hy54 (by assumption) ?_
          case hy54 => ((intro w hSw; (try dsimp only at hSw); (try go_split_ands); go_simp); try with_reducible rfl)
          simp only [Act.put, List.setIfInBounds_toArray, List.set_cons_zero, List.set_cons_succ]
          refine wpAnyH_done (by kernel_rfl) ?_ _
          obtain ⟨U2, c2, t2, r2, own2, yq1', yq2', yj1'⟩ := hHeld
          have fc2 := cellB c2
          have ft2 := cellB t2
          have fr2 := cellB r2
          go_wp2_with fail
          refine wp_region_held_drew (S := (fun w' => Up w w' ∧ mblk w' w.heap.size = some (.cells #[.int .i64 h, .int .i64 m, .int .i64 s, .int .i64 N, .slice a n c] 24 (0, 0)) ∧ mblk w' (w.heap.size + 1) = some (.cells #[.int .i64 ah, .slice (some ⟨b, off, none⟩) n' c'] 44 (0, 0)) ∧ mblk w' (w.heap.size + 1 + 1) = some (.cells #[.int .i64 p0, .int .i64 p1, .int .i64 p2, .int .i64 p3] 27 (0, 0)) ∧ w'.ownsRow (w.heap.size + 1 + 1 + 1) 3 1 ov (D.hits tv ok X (q + 1)).length ((D.hits tv ok X (q + 1)).map (Value.int .i64)) ∧ w'.cell? ⟨b, off + q * 2, none⟩ = some (.int .i64 z1) ∧ w'.cell? ⟨b, off + q * 2 + 1, none⟩ = some (.int .i64 z2) ∧ w'.cell? ⟨b, off + (q + 1) * 2, none⟩ = some (.int .i64 x1))) (by kernel_rfl) ⟨U2.drew, by rw [blk_drew]; exact c2, by rw [blk_drew]; exact t2, by rw [blk_drew]; exact r2, own_up own2 (Up.refl _).drew, yq1', yq2', yj1'⟩ (fun hHeld => ?_)
          clear U2 c2 t2 r2 own2 fc2 ft2 fr2
          clear yq1' yq2'
          clear yj1'
          refine takeH (i := 0) (d := (some 29)) (v := ?v55) rfl rfl (by kernel_rfl) (by kernel_rfl) (by kernel_rfl) (fun _ _ _ h => h) (by rfl) ?hy55 (by assumption) ?_
          case hy55 => ((intro w hSw; (try dsimp only at hSw); (try go_split_ands); go_simp); try with_reducible rfl)
          simp only [Act.put, List.setIfInBounds_toArray, List.set_cons_zero, List.set_cons_succ]
          refine takeH (i := 2) (d := (some 31)) (v := ?v56) rfl rfl (by kernel_rfl) (by kernel_rfl) (by kernel_rfl) (fun _ _ _ h => h) (by rfl) ?hy56 (by assumption) ?_
          case hy56 => ((intro w hSw; (try dsimp only at hSw); (try go_split_ands); go_simp); try with_reducible rfl)
          simp only [Act.put, List.setIfInBounds_toArray, List.set_cons_zero, List.set_cons_succ]
          refine takeH (i := 6) (d := (some 35)) (v := ?v57) rfl rfl (by kernel_rfl) (by kernel_rfl) (by kernel_rfl) (fun _ _ _ h => h) (by rfl) ?hy57 (by assumption) ?_
          case hy57 => ((intro w hSw; (try dsimp only at hSw); (try go_split_ands); go_simp); try with_reducible rfl)
          simp only [Act.put, List.setIfInBounds_toArray, List.set_cons_zero, List.set_cons_succ]
          refine takeH (i := 8) (d := (some 37)) (v := ?v58) rfl rfl (by kernel_rfl) (by kernel_rfl) (by kernel_rfl) (fun _ _ _ h => h) (by rfl) ?hy58 (by assumption) ?_
          case hy58 => ((intro w hSw; (try dsimp only at hSw); (try go_split_ands); go_simp); try with_reducible rfl)
          simp only [Act.put, List.setIfInBounds_toArray, List.set_cons_zero, List.set_cons_succ]
          refine takeH (i := 1) (d := (some 30)) (v := ?v59) rfl rfl (by kernel_rfl) (by kernel_rfl) (by kernel_rfl) (fun _ _ _ h => h) (by rfl) ?hy59 (by assumption) ?_
          case hy59 => ((intro w hSw; (try dsimp only at hSw); (try go_split_ands); go_simp); try with_reducible rfl)
          simp only [Act.put, List.setIfInBounds_toArray, List.set_cons_zero, List.set_cons_succ]
          refine takeH (i := 7) (d := (some 36)) (v := ?v60) rfl rfl (by kernel_rfl) (by kernel_rfl) (by kernel_rfl) (fun _ _ _ h => h) (by rfl) ?hy60 (by assumption) ?_
          case hy60 => ((intro w hSw; (try dsimp only at hSw); (try go_split_ands); go_simp); try with_reducible rfl)
          simp only [Act.put, List.setIfInBounds_toArray, List.set_cons_zero, List.set_cons_succ]
          refine takeH (i := 3) (d := (some 32)) (v := ?v61) rfl rfl (by kernel_rfl) (by kernel_rfl) (by kernel_rfl) (fun _ _ _ h => h) (by rfl) ?hy61 (by assumption) ?_
          case hy61 => ((intro w hSw; (try dsimp only at hSw); (try go_split_ands); go_simp); try with_reducible rfl)
          simp only [Act.put, List.setIfInBounds_toArray, List.set_cons_zero, List.set_cons_succ]
          refine takeH (i := 9) (d := (some 38)) (v := ?v62) rfl rfl (by kernel_rfl) (by kernel_rfl) (by kernel_rfl) (fun _ _ _ h => h) (by rfl) ?hy62 (by assumption) ?_
          case hy62 => ((intro w hSw; (try dsimp only at hSw); (try go_split_ands); go_simp); try with_reducible rfl)
          simp only [Act.put, List.setIfInBounds_toArray, List.set_cons_zero, List.set_cons_succ]
          refine takeH (i := 4) (d := (some 33)) (v := ?v63) rfl rfl (by kernel_rfl) (by kernel_rfl) (by kernel_rfl) (fun _ _ _ h => h) (by rfl) ?hy63 (by assumption) ?_
          case hy63 => ((intro w hSw; (try dsimp only at hSw); (try go_split_ands); go_simp); try with_reducible rfl)
          simp only [Act.put, List.setIfInBounds_toArray, List.set_cons_zero, List.set_cons_succ]
          refine takeH (i := 10) (d := (some 39)) (v := ?v64) rfl rfl (by kernel_rfl) (by kernel_rfl) (by kernel_rfl) (fun _ _ _ h => h) (by rfl) ?hy64 (by assumption) ?_
          case hy64 => ((intro w hSw; (try dsimp only at hSw); (try go_split_ands); go_simp); try with_reducible rfl)
          simp only [Act.put, List.setIfInBounds_toArray, List.set_cons_zero, List.set_cons_succ]
          refine takeH (i := 5) (d := (some 34)) (v := ?v65) rfl rfl (by kernel_rfl) (by kernel_rfl) (by kernel_rfl) (fun _ _ _ h => h) (by rfl) ?hy65 (by assumption) ?_
          case hy65 => ((intro w hSw; (try dsimp only at hSw); (try go_split_ands); go_simp); try with_reducible rfl)
          simp only [Act.put, List.setIfInBounds_toArray, List.set_cons_zero, List.set_cons_succ]
          refine takeH (i := 11) (d := (some 40)) (v := ?v66) rfl rfl (by kernel_rfl) (by kernel_rfl) (by kernel_rfl) (fun _ _ _ h => h) (by rfl) ?hy66 (by assumption) ?_
          case hy66 => ((intro w hSw; (try dsimp only at hSw); (try go_split_ands); go_simp); try with_reducible rfl)
          simp only [Act.put, List.setIfInBounds_toArray, List.set_cons_zero, List.set_cons_succ]
          refine takeH (i := 12) (d := (some 9)) (v := ?v67) rfl rfl (by kernel_rfl) (by kernel_rfl) (by kernel_rfl) (fun _ _ _ h => h) (by rfl) ?hy67 (by assumption) ?_
          case hy67 => ((intro w hSw; (try dsimp only at hSw); (try go_split_ands); go_simp); try with_reducible rfl)
          simp only [Act.put, List.setIfInBounds_toArray, List.set_cons_zero, List.set_cons_succ]
          refine takeH (i := 13) (d := (some 10)) (v := ?v68) rfl rfl (by kernel_rfl) (by kernel_rfl) (by kernel_rfl) (fun _ _ _ h => h) (by rfl) ?hy68 (by assumption) ?_
          case hy68 => ((intro w hSw; (try dsimp only at hSw); (try go_split_ands); go_simp); try with_reducible rfl)
          simp only [Act.put, List.setIfInBounds_toArray, List.set_cons_zero, List.set_cons_succ]
          refine wpAnyH_done (by kernel_rfl) ?_ _
          obtain ⟨U3, c3, t3, r3, own3, yq1', yq2', yj1'⟩ := hHeld
          have fc3 := cellB c3
          have ft3 := cellB t3
          have fr3 := cellB r3
          go_wp2_with fail
          refine (HBg.out _ U3).mono ?_
          rintro e w4 ⟨rfl, v4⟩
          have yj2 := (v4.facts.1 b _ (World.block_lt_of_cell? _ _ yj1')).trans yj1'
          have U4 := U3.trans v4
          have c4 := v4.blk c3
          have t4 := v4.blk t3
          have r4 := v4.blk r3
          have own4 := own_up own3 v4
          have fc4 := cellB c4
          have ft4 := cellB t4
          have fr4 := cellB r4
          clear v4 U3 c3 t3 r3 own3 fc3 ft3 fr3
          go_wp2_with fail
          refine wp_region_held_drew (S := (fun w' => Up w w' ∧ mblk w' w.heap.size = some (.cells #[.int .i64 h, .int .i64 m, .int .i64 s, .int .i64 N, .slice a n c] 24 (0, 0)) ∧ mblk w' (w.heap.size + 1) = some (.cells #[.int .i64 ah, .slice (some ⟨b, off, none⟩) n' c'] 44 (0, 0)) ∧ mblk w' (w.heap.size + 1 + 1) = some (.cells #[.int .i64 p0, .int .i64 p1, .int .i64 p2, .int .i64 p3] 27 (0, 0)) ∧ w'.ownsRow (w.heap.size + 1 + 1 + 1) 3 1 ov (D.hits tv ok X (q + 1)).length ((D.hits tv ok X (q + 1)).map (Value.int .i64)))) (by kernel_rfl) ⟨U4.drew, by rw [blk_drew]; exact c4, by rw [blk_drew]; exact t4, by rw [blk_drew]; exact r4, own_up own4 (Up.refl _).drew⟩ (fun hHeld => ?_)
          clear U4 c4 t4 r4 own4 fc4 ft4 fr4
          refine takeH (i := 0) (d := (some 58)) (v := ?v69) rfl rfl (by kernel_rfl) (by kernel_rfl) (by kernel_rfl) (fun _ _ _ h => h) (by rfl) ?hy69 (by assumption) ?_
          case hy69 => ((intro w hSw; (try dsimp only at hSw); (try go_split_ands); go_simp); try with_reducible rfl)
          simp only [Act.put, List.setIfInBounds_toArray, List.set_cons_zero, List.set_cons_succ]
          refine takeH (i := 1) (d := (some 59)) (v := ?v70) rfl rfl (by kernel_rfl) (by kernel_rfl) (by kernel_rfl) (fun _ _ _ h => h) (by rfl) ?hy70 (by assumption) ?_
          case hy70 => ((intro w hSw; (try dsimp only at hSw); (try go_split_ands); go_simp); try with_reducible rfl)
          simp only [Act.put, List.setIfInBounds_toArray, List.set_cons_zero, List.set_cons_succ]
          refine takeH (i := 2) (d := (some 60)) (v := ?v71) rfl rfl (by kernel_rfl) (by kernel_rfl) (by kernel_rfl) (fun _ _ _ h => h) (by rfl) ?hy71 (by assumption) ?_
          case hy71 => ((intro w hSw; (try dsimp only at hSw); (try go_split_ands); go_simp); try with_reducible rfl)
          simp only [Act.put, List.setIfInBounds_toArray, List.set_cons_zero, List.set_cons_succ]
          refine takeH (i := 3) (d := (some 61)) (v := ?v72) rfl rfl (by kernel_rfl) (by kernel_rfl) (by kernel_rfl) (fun _ _ _ h => h) (by rfl) ?hy72 (by assumption) ?_
          case hy72 => ((intro w hSw; (try dsimp only at hSw); (try go_split_ands); go_simp); try with_reducible rfl)
          simp only [Act.put, List.setIfInBounds_toArray, List.set_cons_zero, List.set_cons_succ]
          refine takeH (i := 4) (d := (some 62)) (v := ?v73) rfl rfl (by kernel_rfl) (by kernel_rfl) (by kernel_rfl) (fun _ _ _ h => h) (by rfl) ?hy73 (by assumption) ?_
          case hy73 => ((intro w hSw; (try dsimp only at hSw); (try go_split_ands); go_simp); try with_reducible rfl)
          simp only [Act.put, List.setIfInBounds_toArray, List.set_cons_zero, List.set_cons_succ]
          refine wpAnyH_ready (rs := [5]) (by kernel_rfl) (by simp) ?_
          refine AllReadyH.cons rfl (fun K hK => ?_) AllReadyH.nil
          go_simp
          refine (HM.out _).mono ?_
          rintro e w5 ⟨rfl, v5⟩
          go_wp2_with fail
          refine hK.out _ _ ⟨hHeld.1.trans v5, v5.blk hHeld.2.1, v5.blk hHeld.2.2.1, v5.blk hHeld.2.2.2.1, own_up hHeld.2.2.2.2 v5⟩ (fun hHeld => ?_)
          clear hK K v5
          refine wpAnyH_ready (rs := [6]) (by kernel_rfl) (by simp) ?_
          refine AllReadyH.cons rfl (fun K hK => ?_) AllReadyH.nil
          go_simp
          refine (HT.out _ hHeld.1).mono ?_
          rintro e w6 ⟨rfl, v6⟩
          go_wp2_with fail
          refine hK.out _ _ ⟨hHeld.1.trans v6, v6.blk hHeld.2.1, v6.blk hHeld.2.2.1, v6.blk hHeld.2.2.2.1, own_up hHeld.2.2.2.2 v6⟩ (fun hHeld => ?_)
          clear hK K v6
          refine takeH (i := 7) (d := (some 12)) (v := ?v76) rfl rfl (by kernel_rfl) (by kernel_rfl) (by kernel_rfl) (fun _ _ _ h => h) (by rfl) ?hy76 (by assumption) ?_
          case hy76 => ((intro w hSw; (try dsimp only at hSw); (try go_split_ands); go_simp); try with_reducible rfl)
          simp only [Act.put, List.setIfInBounds_toArray, List.set_cons_zero, List.set_cons_succ]
          refine wpAnyH_done (by kernel_rfl) ?_ _
          obtain ⟨U7, c7, t7, r7, own7⟩ := hHeld
          have fc7 := cellB c7
          have ft7 := cellB t7
          have fr7 := cellB r7
          clear HM HT HPr HBg
          by_cases hit : z1 ≤ nj ∧ nj < x1
          · have h3 : Hid (D.hits tv ok X (q + 1 + 1) = D.hits tv ok X (q + 1) ++ [nj]) := by show _ = _; rw [HJ.out, if_pos hit]
            obtain ⟨hi1, hi2⟩ := hit
            have lo7 := HLn.out
            have own7' := own7
            go_wp2_with (at_builtin; refine wpList_append_own _ rfl (.tmp 73) (.tmp 75) 49 rfl (w.heap.size + 1 + 1 + 1) 3 i0 (.int .i64 0) 1 8 Try.underlying49 hin hz0 hz1 hz2 rfl (by decide) _ _ _ rfl (own7.alloc _) ⟨_, 0, none⟩ 1 1 [.int .i64 nj] rfl rfl (cell_one_at _ _ _ _ rfl) (by simp [Value.oneCell']) (by unfold maxLen; omega) (by omega) (by have := U7.size; have := blk_lt r7; simp; omega) ?_; intro v' w8 own8 hgrow8 _)
            have c8 := grown_blk hgrow8 (blk_keep _ c7) (own_ne own7' (by omega))
            have t8 := grown_blk hgrow8 (blk_keep _ t7) (own_ne own7' (by omega))
            have r8 := grown_blk hgrow8 (blk_keep _ r7) (own_ne own7' (by omega))
            have U8 := (U7.alloc _).grown hgrow8 (fun j hj => by have := own_block own7' hj; omega)
            clear hgrow8 own7 own7' c7 t7 r7 U7 fc7 ft7 fr7
            go_wp2
            go_roundw
            case rel => exact ⟨q + 1 + 1, ((q + 1 + 1 : Nat) : Int) - 1, _, rfl, by omega, rfl, by first | go_num | simp, c8, t8, r8, by rw [h3.out, List.length_append, List.map_append]; exact own8, U8⟩
            case measure => simp [intOf]; omega
          · have h3 : Hid (D.hits tv ok X (q + 1 + 1) = D.hits tv ok X (q + 1)) := by show _ = _; rw [HJ.out, if_neg hit, List.append_nil]
            by_cases lo : z1 ≤ nj
            · have hi2 : ¬ (nj < x1) := fun q => hit ⟨lo, q⟩
              clear hit HJ
              go_wp2
              go_roundw
              case rel => exact ⟨q + 1 + 1, ((q + 1 + 1 : Nat) : Int) - 1, _, rfl, by omega, rfl, by first | go_num | simp, c7, t7, r7, by rw [h3.out]; exact own7, U7⟩
              case measure => simp [intOf]; omega
            · skip
              clear hit HJ
              go_wp2
              go_roundw
              case rel => exact ⟨q + 1 + 1, ((q + 1 + 1 : Nat) : Int) - 1, _, rfl, by omega, rfl, by first | go_num | simp, c7, t7, r7, by rw [h3.out]; exact own7, U7⟩
              case measure => simp [intOf]; omega

set_option maxRecDepth 100000 in
set_option maxHeartbeats 1000000 in
theorem r_ticks_none {h m s : Int} {N : Nat} {a : Option Addr} {n c : Nat} {ah : Int} {a' : Option Addr} {n' c' : Nat} {w : World} (h1 : 1 ≤ h) (h2 : h ≤ 24) (m1 : 1 ≤ m) (m2 : m ≤ 60) (p0 p1 p2 p3 : Int) (hp : D.prop h m p0 p1 p2 = false) :
    Calls Try.prog 75 #[.agg #[.int .i64 h, .int .i64 m, .int .i64 s, .int .i64 N, .slice a n c], .agg #[.int .i64 ah, .slice a' n' c'], rd p0 p1 p2 p3] w fun e w' => e = .returned (.slice none 0 0) ∧ Up w w' := by
  have HPr := Lib.hid (fun w => r_proper_any (s := s) (d := N) (a := a) (n := n) (c := c) (w := w) h1 h2 m1 m2 p0 p1 p2 p3)
  rw [hp] at HPr
  have gi : ∀ i : Int, i = -1 → i < (n' : Int) := fun i e => by omega
  clear hp
  go_enter Try.func75, Try.ntmps75
  go_wp2_with fail
  go_loopw [7, 8] (fun lv iv wr => ∃ i : Int, i = -1 ∧ iv = .int .i64 i ∧ lv = .slice none 0 0 ∧ mblk wr w.heap.size = some (.cells #[.int .i64 h, .int .i64 m, .int .i64 s, .int .i64 N, .slice a n c] 24 (0, 0)) ∧ mblk wr (w.heap.size + 1) = some (.cells #[.int .i64 ah, .slice a' n' c'] 44 (0, 0)) ∧ mblk wr (w.heap.size + 1 + 1) = some (.cells #[.int .i64 p0, .int .i64 p1, .int .i64 p2, .int .i64 p3] 27 (0, 0)) ∧ Up w wr) (fun _ _ _ => 0)
  case atStart => exact ⟨-1, rfl, rfl, rfl, blk_keep _ (blk_keep _ (blk_new _ _ _ rfl)), blk_keep _ (blk_new _ _ _ (by simp)), blk_new _ _ _ (by simp), (((Up.refl _).alloc _).alloc _).alloc _⟩
  case round =>
    obtain ⟨i, hi, rfl, rfl, cj, tj, rj, Uj⟩ := hrel
    have fcj := cellB cj
    have ftj := cellB tj
    have frj := cellB rj
    have g := gi i hi
    clear hi gi
    go_wp2_with fail
    refine (HPr.out _).mono ?_
    rintro e w1 ⟨rfl, u1⟩
    go_wp2
    go_ret
    exact ⟨rfl, Uj.trans u1⟩

section
variable {h m s d : Int} {a : Option Addr} {n c : Nat} {L : List (Int × Bool)} {ah : Int} {a' : Option Addr} {n' c' : Nat} {M : List (Int × Int)} {w : World}
set_option maxRecDepth 100000 in
set_option maxHeartbeats 1000000 in
theorem r_Ticks_no (A : CalArg w a n c L) (hn : n ≤ 17592186044000) (B : TownArg w a' n' c' M) (p0 p1 p2 p3 : Int) (he : ¬ D.townE h m s d L ah M = 0) :
    Calls Try.prog 36 #[.agg #[.int .i64 h, .int .i64 m, .int .i64 s, .int .i64 d, .slice a n c], .agg #[.int .i64 ah, .slice a' n' c'], rd p0 p1 p2 p3] w fun e w' => e = .returned (.tuple #[.slice none 0 0, .int .i64 (D.townE h m s d L ah M)]) ∧ Up w w' := by
  have U0 := (((Up.refl w).alloc (.cells #[.int .i64 h, .int .i64 m, .int .i64 s, .int .i64 d, .slice a n c] 24)).alloc (.cells #[.int .i64 ah, .slice a' n' c'] 44)).alloc (.cells #[.int .i64 p0, .int .i64 p1, .int .i64 p2, .int .i64 p3] 27)
  have K := Lib.hid (r_CheckTown_any (h := h) (m := m) (s := s) (d := d) (c := c) (c' := c') (ah := ah) (A.up U0) hn (B.up U0))
  generalize D.townE h m s d L ah M = E at *
  have hE : (E != 0) = true := by simp [he]
  clear A B he
  go_enter Try.func36, Try.ntmps36
  go_wp2_with fail
  refine K.out.mono ?_
  rintro e w1 ⟨rfl, u1⟩
  go_wp2
  go_ret2
  exact ⟨rfl, U0.trans u1⟩
set_option maxRecDepth 100000 in
set_option maxHeartbeats 1000000 in
theorem r_Ticks_yes (A : CalArg w a n c L) (hn : n ≤ 17592186044000) (B : TownArg w a' n' c' M) (p0 p1 p2 p3 : Int) (hv : D.valid h m s d L = true) (ht : D.townOk (D.beg h m s (D.deeds L L.length) d.toNat) ah M = true) :
    Calls Try.prog 36 #[.agg #[.int .i64 h, .int .i64 m, .int .i64 s, .int .i64 d, .slice a n c], .agg #[.int .i64 ah, .slice a' n' c'], rd p0 p1 p2 p3] w fun e w' => ∃ v, e = .returned (.tuple #[v, .int .i64 0]) ∧ Up w w' ∧ D.Sl w' v (D.ticksV h m s d.toNat (D.deeds L L.length) ah M p0 p1 p2 p3) := by
  obtain ⟨h1, h2, m1, m2, s1, s2, d1, d2⟩ := D.valid_bd hv
  obtain ⟨N, rfl⟩ : ∃ N : Nat, d = N := ⟨d.toNat, by omega⟩
  have U0 := (((Up.refl w).alloc (.cells #[.int .i64 h, .int .i64 m, .int .i64 s, .int .i64 N, .slice a n c] 24)).alloc (.cells #[.int .i64 ah, .slice a' n' c'] 44)).alloc (.cells #[.int .i64 p0, .int .i64 p1, .int .i64 p2, .int .i64 p3] 27)
  have K := Lib.hid (r_CheckTown_any (h := h) (m := m) (s := s) (d := N) (c := c) (c' := c') (ah := ah) (A.up U0) hn (B.up U0))
  have e0 : D.townE h m s N L ah M = 0 := by simp only [D.townE, hv, ht, if_true]
  rw [e0] at K
  rw [Int.toNat_natCast] at ht ⊢
  have HT := Lib.hid (fun w' (u : Up w w') => show Calls Try.prog 75 #[.agg #[.int .i64 h, .int .i64 m, .int .i64 s, .int .i64 N, .slice a n c], .agg #[.int .i64 ah, .slice a' n' c'], rd p0 p1 p2 p3] w' fun e w'' => ∃ v, e = .returned v ∧ Up w' w'' ∧ D.Sl w'' v (D.ticksV h m s N (D.deeds L L.length) ah M p0 p1 p2 p3) by
    cases hp : D.prop h m p0 p1 p2
    · refine (r_ticks_none h1 h2 m1 m2 p0 p1 p2 p3 hp).mono ?_
      rintro e w'' ⟨rfl, u2⟩
      refine ⟨_, rfl, u2, ?_⟩
      rw [D.prop_mem h1 h2 m1 m2 s1 s2 (by omega) ht p0 p1 p2 p3 hp]
      exact ⟨none, 0, rfl, by simp, fun q => by simp at q⟩
    · exact r_ticks_yes (A.up u) (B.up u) hv ht p0 p1 p2 p3 hp)
  have c0 : mblk (((w.alloc (.cells #[.int .i64 h, .int .i64 m, .int .i64 s, .int .i64 N, .slice a n c] 24)).alloc (.cells #[.int .i64 ah, .slice a' n' c'] 44)).alloc (.cells #[.int .i64 p0, .int .i64 p1, .int .i64 p2, .int .i64 p3] 27)) w.heap.size = some (.cells #[.int .i64 h, .int .i64 m, .int .i64 s, .int .i64 N, .slice a n c] 24 (0, 0)) := blk_keep _ (blk_keep _ (blk_new _ _ _ rfl))
  have t0 : mblk (((w.alloc (.cells #[.int .i64 h, .int .i64 m, .int .i64 s, .int .i64 N, .slice a n c] 24)).alloc (.cells #[.int .i64 ah, .slice a' n' c'] 44)).alloc (.cells #[.int .i64 p0, .int .i64 p1, .int .i64 p2, .int .i64 p3] 27)) (w.heap.size + 1) = some (.cells #[.int .i64 ah, .slice a' n' c'] 44 (0, 0)) := blk_keep _ (blk_new _ _ _ (by simp))
  have r0 : mblk (((w.alloc (.cells #[.int .i64 h, .int .i64 m, .int .i64 s, .int .i64 N, .slice a n c] 24)).alloc (.cells #[.int .i64 ah, .slice a' n' c'] 44)).alloc (.cells #[.int .i64 p0, .int .i64 p1, .int .i64 p2, .int .i64 p3] 27)) (w.heap.size + 1 + 1) = some (.cells #[.int .i64 p0, .int .i64 p1, .int .i64 p2, .int .i64 p3] 27 (0, 0)) := blk_new _ _ _ (by simp)
  generalize D.ticksV h m s N (D.deeds L L.length) ah M p0 p1 p2 p3 = l at *
  clear A B hv ht e0
  go_enter Try.func36, Try.ntmps36
  go_wp2_with fail
  refine K.out.mono ?_
  rintro e w1 ⟨rfl, u1⟩
  have f1 := cellB (u1.blk c0)
  have f2 := cellB (u1.blk t0)
  have f3 := cellB (u1.blk r0)
  have U1 := U0.trans u1
  go_wp2_with fail
  refine (HT.out _ U1).mono ?_
  rintro e w2 ⟨v, rfl, u2, hS⟩
  go_wp2
  go_ret2
  exact ⟨_, rfl, U1.trans u2, hS⟩
/-- what both return -/
theorem both_Ticks (A : CalArg w a n c L) (hn : n ≤ 17592186044000) (B : TownArg w a' n' c' M) (p0 p1 p2 p3 : Int) : ∃ (l : List Int) (e : Int), (∀ w', Up w w' → Calls Try.prog 35 #[.agg #[.int .i64 h, .int .i64 m, .int .i64 s, .int .i64 d, .slice a n c], .agg #[.int .i64 ah, .slice a' n' c'], rd p0 p1 p2 p3] w' fun x w'' => ∃ v, x = .returned (.tuple #[v, .int .i64 e]) ∧ Up w' w'' ∧ D.Sl w'' v l) ∧ ∀ w', Up w w' → Calls Try.prog 36 #[.agg #[.int .i64 h, .int .i64 m, .int .i64 s, .int .i64 d, .slice a n c], .agg #[.int .i64 ah, .slice a' n' c'], rd p0 p1 p2 p3] w' fun x w'' => ∃ v, x = .returned (.tuple #[v, .int .i64 e]) ∧ Up w' w'' ∧ D.Sl w'' v l := by
  have nil : ∀ w'', D.Sl w'' (.slice none 0 0) [] := fun w'' => ⟨none, 0, rfl, by simp, fun q => by simp at q⟩
  by_cases he : D.townE h m s d L ah M = 0
  · have hv : D.valid h m s d L = true := by
      cases hv : D.valid h m s d L
      · simp [D.townE, hv] at he
      · rfl
    have ht : D.townOk (D.beg h m s (D.deeds L L.length) d.toNat) ah M = true := by
      cases ht : D.townOk (D.beg h m s (D.deeds L L.length) d.toNat) ah M
      · simp [D.townE, hv, ht] at he
      · rfl
    have hl := D.ticks_len (h := h) (m := m) (s := s) (n := d.toNat) (x := D.deeds L L.length) (ah := ah) (M := M) p0 p1 p2 p3
    have ml := (D.town_bd ht).2.2.1
    exact ⟨_, 0, fun _ u => (Ticks_yes (A.up u) (B.up u) p0 p1 p2 p3 hv ht).mono fun e w'' ⟨v, he, u2, hN⟩ => ⟨v, he, u2, hN.sl (by omega)⟩, fun _ u => r_Ticks_yes (A.up u) hn (B.up u) p0 p1 p2 p3 hv ht⟩
  · exact ⟨[], _, fun _ u => (Ticks_no (A.up u) (B.up u) p0 p1 p2 p3 he).mono fun e w'' ⟨h1, u2⟩ => ⟨_, h1, u2, nil w''⟩, fun _ u => (r_Ticks_no (A.up u) hn (B.up u) p0 p1 p2 p3 he).mono fun e w'' ⟨h1, u2⟩ => ⟨_, h1, u2, nil w''⟩⟩
theorem both_CheckTown (A : CalArg w a n c L) (hn : n ≤ 17592186044000) (B : TownArg w a' n' c' M) : ∃ e : Int, (∀ w', Up w w' → Calls Try.prog 33 #[.agg #[.int .i64 h, .int .i64 m, .int .i64 s, .int .i64 d, .slice a n c], .agg #[.int .i64 ah, .slice a' n' c']] w' fun x w'' => x = .returned (.int .i64 e) ∧ Up w' w'') ∧ ∀ w', Up w w' → Calls Try.prog 34 #[.agg #[.int .i64 h, .int .i64 m, .int .i64 s, .int .i64 d, .slice a n c], .agg #[.int .i64 ah, .slice a' n' c']] w' fun x w'' => x = .returned (.int .i64 e) ∧ Up w' w'' :=
  ⟨_, fun _ u => CheckTown_any (A.up u) (B.up u), fun _ u => r_CheckTown_any (A.up u) hn (B.up u)⟩
end

end Go.Proofs.Ytfmnfingliflkaa
