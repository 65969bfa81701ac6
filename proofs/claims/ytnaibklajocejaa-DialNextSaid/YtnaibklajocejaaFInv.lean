import Derived.Test.YtnaibklajocejaaTickA
/- The walk of the law DialInverse. -/
namespace Go.Proofs.Ytnaibklajocejaa
open Go.RowKit

theorem Reading_rd {h m s d : Int} {a : Option Addr} {n c : Nat} {L : List (Int × Bool)} {w : World} (A : CalArg w a n c L) (t : Int) (hv : D.valid h m s d L = true) (t0 : 0 ≤ t) (t1 : t < D.beg h m s (D.deeds L L.length) d.toNat) :
    Calls Try.prog 21 #[.agg #[.int .i64 h, .int .i64 m, .int .i64 s, .int .i64 d, .slice a n c], .int .i64 t] w fun e w' => e = .returned (.tuple #[rd (D.rA h m s (D.deeds L L.length) d.toNat t) (D.rB h m s (D.deeds L L.length) d.toNat t) (D.rC h m s (D.deeds L L.length) d.toNat t) (D.rS h m s (D.deeds L L.length) d.toNat t), .int .i64 0]) ∧ Up w w' := by
  obtain ⟨h1, h2, m1, m2, s1, s2, d1, d2⟩ := D.valid_bd hv
  obtain ⟨p1, p2, p3⟩ := D.dy_is h m s (D.deeds L L.length) t t0 d.toNat t1
  exact Reading_yes A t _ hv (by omega) t0 p2 p3
theorem Reading_out {h m s d : Int} {a : Option Addr} {n c : Nat} {L : List (Int × Bool)} {w : World} (A : CalArg w a n c L) (t : Int) (hv : D.valid h m s d L = true) (t1 : ¬ (0 ≤ t ∧ t < D.beg h m s (D.deeds L L.length) d.toNat)) :
    Calls Try.prog 21 #[.agg #[.int .i64 h, .int .i64 m, .int .i64 s, .int .i64 d, .slice a n c], .int .i64 t] w fun e w' => e = .returned (.tuple #[rd 0 0 0 0, .int .i64 11]) ∧ Up w w' :=
  Reading_ask A t hv (by rw [inB_no]; omega)
theorem cell_BOX2 {w : World} {b : Nat} {cs : Array Value} (h : mblk w b = some (.cells cs 25 (0, 0))) (j : Nat) : w.cell? ⟨b, j, none⟩ = cs[j]? := cellB h j
attribute [local go_sem] cell_BOX2

set_option maxRecDepth 100000 in
set_option maxHeartbeats 40000000 in
theorem dialInverse_any {h m s d : Int} {a : Option Addr} {n c : Nat} {L : List (Int × Bool)} {w : World} (A : CalArg w a n c L) (n0 n1 : Int) :
    Calls Try.prog 7 #[.agg #[.int .i64 h, .int .i64 m, .int .i64 s, .int .i64 d, .slice a n c], .agg #[.int .i64 n0, .int .i64 n1]] w fun e w' => e = .returned (.bool true) ∧ Up w w' := by
  have U0 := ((Up.refl w).alloc (.cells #[.int .i64 h, .int .i64 m, .int .i64 s, .int .i64 d, .slice a n c] 24)).alloc (.cells #[.int .i64 n0, .int .i64 n1] 25)
  have A0 := A.up U0
  have H0 := Lib.hid (l_sound_any (h := h) (m := m) (s := s) (d := d) A0)
  cases hv : D.valid h m s d L
  · rw [hv] at H0
    clear A A0 hv U0
    go_enter Try.func7, Try.ntmps7
    go_wp2_with fail
    refine H0.out.mono ?_
    rintro e w1 ⟨rfl, u1⟩
    go_wp2_with fail
    refine (l_works_any _).mono ?_
    rintro e w2 ⟨rfl, u2⟩
    go_wp2
    go_ret
    exact ⟨rfl, (((Up.refl w).alloc _).alloc _).trans (u1.trans u2)⟩
  rw [hv] at H0
  obtain ⟨h1, h2, m1, m2, s1, s2, d1, d2⟩ := D.valid_bd hv
  have tb := D.beg_bd h m s (D.deeds L L.length) h1 h2 m1 m2 s1 s2 d.toNat
  have H1 := Lib.hid (fun w' (u : Up w w') => l_ticksOf_any (h := h) (m := m) (s := s) (d := d) (A.up u) hv)
  have H2 := Lib.hid (fun t w' (u : Up w w') t0 t1 => Reading_rd (h := h) (m := m) (s := s) (d := d) (A.up u) t hv t0 t1)
  have H3 := Lib.hid (fun t w' (u : Up w w') t1 => Reading_out (h := h) (m := m) (s := s) (d := d) (A.up u) t hv t1)
  have HT := Lib.hid (fun t (t0 : 0 ≤ t) (t1 : t < D.beg h m s (D.deeds L L.length) d.toNat) => D.rd_is (h := h) (m := m) (s := s) h1 m1 s1 t0 t1)
  have H4 := Lib.hid (fun t w' (u : Up w w') (t0 : 0 ≤ t) (t1 : t < D.beg h m s (D.deeds L L.length) d.toNat) => show Calls Try.prog 23 #[.agg #[.int .i64 h, .int .i64 m, .int .i64 s, .int .i64 d, .slice a n c], rd (D.rA h m s (D.deeds L L.length) d.toNat t) (D.rB h m s (D.deeds L L.length) d.toNat t) (D.rC h m s (D.deeds L L.length) d.toNat t) (D.rS h m s (D.deeds L L.length) d.toNat t)] w' fun e w'' => e = .returned (.tuple #[.int .i64 t, .int .i64 0]) ∧ Up w' w'' by
    have r := D.rd_is (h := h) (m := m) (s := s) h1 m1 s1 t0 t1
    have K := Tick_any (h := h) (m := m) (s := s) (d := d) (A.up u) (D.rA h m s (D.deeds L L.length) d.toNat t) (D.rB h m s (D.deeds L L.length) d.toNat t) (D.rC h m s (D.deeds L L.length) d.toNat t) (D.rS h m s (D.deeds L L.length) d.toNat t)
    have e1 : D.isRd h m s d (D.deeds L L.length) (D.rA h m s (D.deeds L L.length) d.toNat t) (D.rB h m s (D.deeds L L.length) d.toNat t) (D.rC h m s (D.deeds L L.length) d.toNat t) (D.rS h m s (D.deeds L L.length) d.toNat t) = true := by
      have := r.isRd h1 h2 m1 m2 (by omega)
      rwa [Int.toNat_of_nonneg (by omega)] at this
    rw [D.tickV, if_pos hv, if_pos e1, r.tk] at K
    exact K)
  have T1 : 1 ≤ D.beg h m s (D.deeds L L.length) d.toNat := by omega
  have T2 : D.beg h m s (D.deeds L L.length) d.toNat ≤ 1000000 := by omega
  have i0 := Int.emod_nonneg n0 (show D.beg h m s (D.deeds L L.length) d.toNat ≠ 0 by omega)
  have i1 := Int.emod_lt_of_pos n0 (show 0 < D.beg h m s (D.deeds L L.length) d.toNat by omega)
  have k0 := Int.emod_nonneg n1 (show D.beg h m s (D.deeds L L.length) d.toNat ≠ 0 by omega)
  have k1 := Int.emod_lt_of_pos n1 (show 0 < D.beg h m s (D.deeds L L.length) d.toNat by omega)
  clear A A0 hv tb
  generalize D.rA h m s (D.deeds L L.length) d.toNat = fA at *
  generalize D.rB h m s (D.deeds L L.length) d.toNat = fB at *
  generalize D.rC h m s (D.deeds L L.length) d.toNat = fC at *
  generalize D.rS h m s (D.deeds L L.length) d.toNat = fS at *
  generalize hTT : D.beg h m s (D.deeds L L.length) d.toNat = T at *
  clear hTT
  go_enter Try.func7, Try.ntmps7
  go_wp2_with fail
  obtain ⟨W0, hW0⟩ : ∃ W0, (w.alloc (.cells #[.int .i64 h, .int .i64 m, .int .i64 s, .int .i64 d, .slice a n c] 24)).alloc (.cells #[.int .i64 n0, .int .i64 n1] 25) = W0 := ⟨_, rfl⟩
  rw [hW0] at H0 U0
  have c0 : mblk W0 w.heap.size = some (.cells #[.int .i64 h, .int .i64 m, .int .i64 s, .int .i64 d, .slice a n c] 24) := by rw [← hW0]; exact blk_keep _ (blk_new _ _ _ rfl)
  have b0 : mblk W0 (w.heap.size + 1) = some (.cells #[.int .i64 n0, .int .i64 n1] 25) := by rw [← hW0]; exact blk_new _ _ _ (by simp)
  rw [hW0]
  clear hW0
  refine H0.out.mono ?_
  rintro e w1 ⟨rfl, u1⟩
  have U1 := U0.trans u1
  have c1 := u1.blk c0
  have b1 := u1.blk b0
  have f1 := cellB c1
  clear u1 U0 c0 b0 H0
  go_wp2_with fail
  refine (H1.out _ U1).mono ?_
  rintro e w2 ⟨rfl, u2⟩
  have U2 := U1.trans u2
  have c2 := u2.blk c1
  have b2 := u2.blk b1
  clear u2 U1 c1 b1 f1 H1
  go_wp2_with fail
  refine wp_region_held_drew (S := fun w' => Up w w' ∧ mblk w' w.heap.size = some (.cells #[.int .i64 h, .int .i64 m, .int .i64 s, .int .i64 d, .slice a n c] 24 (0, 0)) ∧ mblk w' (w.heap.size + 1) = some (.cells #[.int .i64 n0, .int .i64 n1] 25 (0, 0))) (by kernel_rfl) ⟨U2.drew, by rw [blk_drew]; exact c2, by rw [blk_drew]; exact b2⟩ (fun hHeld => ?_)
  clear U2 c2 b2
  refine takeH (i := 0) (d := (some 29)) (v := ?v1) rfl rfl (by kernel_rfl) (by kernel_rfl) (by kernel_rfl) (fun _ _ _ h => h) (by rfl) ?hy1 (by assumption) ?_
  case hy1 => ((intro w hSw; (try dsimp only at hSw); (try go_split_ands); go_simp); try with_reducible rfl)
  simp only [Act.put, List.setIfInBounds_toArray, List.set_cons_zero, List.set_cons_succ]
  refine takeH (i := 2) (d := (some 31)) (v := ?v2) rfl rfl (by kernel_rfl) (by kernel_rfl) (by kernel_rfl) (fun _ _ _ h => h) (by rfl) ?hy2 (by assumption) ?_
  case hy2 => ((intro w hSw; (try dsimp only at hSw); (try go_split_ands); go_simp); try with_reducible rfl)
  simp only [Act.put, List.setIfInBounds_toArray, List.set_cons_zero, List.set_cons_succ]
  refine takeH (i := 4) (d := (some 33)) (v := ?v3) rfl rfl (by kernel_rfl) (by kernel_rfl) (by kernel_rfl) (fun _ _ _ h => h) (by rfl) ?hy3 (by assumption) ?_
  case hy3 => ((intro w hSw; (try dsimp only at hSw); (try go_split_ands); go_simp); try with_reducible rfl)
  simp only [Act.put, List.setIfInBounds_toArray, List.set_cons_zero, List.set_cons_succ]
  refine takeH (i := 6) (d := (some 35)) (v := ?v4) rfl rfl (by kernel_rfl) (by kernel_rfl) (by kernel_rfl) (fun _ _ _ h => h) (by rfl) ?hy4 (by assumption) ?_
  case hy4 => ((intro w hSw; (try dsimp only at hSw); (try go_split_ands); go_simp); try with_reducible rfl)
  simp only [Act.put, List.setIfInBounds_toArray, List.set_cons_zero, List.set_cons_succ]
  refine takeH (i := 1) (d := (some 30)) (v := ?v5) rfl rfl (by kernel_rfl) (by kernel_rfl) (by kernel_rfl) (fun _ _ _ h => h) (by rfl) ?hy5 (by assumption) ?_
  case hy5 => ((intro w hSw; (try dsimp only at hSw); (try go_split_ands); go_simp); try with_reducible rfl)
  simp only [Act.put, List.setIfInBounds_toArray, List.set_cons_zero, List.set_cons_succ]
  refine takeH (i := 5) (d := (some 34)) (v := ?v6) rfl rfl (by kernel_rfl) (by kernel_rfl) (by kernel_rfl) (fun _ _ _ h => h) (by rfl) ?hy6 (by assumption) ?_
  case hy6 => ((intro w hSw; (try dsimp only at hSw); (try go_split_ands); go_simp); try with_reducible rfl)
  simp only [Act.put, List.setIfInBounds_toArray, List.set_cons_zero, List.set_cons_succ]
  refine wpAnyH_ready (rs := [3]) (by kernel_rfl) (by simp) ?_
  refine AllReadyH.cons rfl (fun K hK => ?_) AllReadyH.nil
  go_simp
  refine (l_Rest_any _ _ _ T1 (by omega)).mono ?_
  rintro e w3 ⟨rfl, rfl⟩
  go_wp2_with fail
  refine hK.out _ _ hHeld (fun hHeld => ?_)
  clear hK K
  refine wpAnyH_ready (rs := [7]) (by kernel_rfl) (by simp) ?_
  refine AllReadyH.cons rfl (fun K hK => ?_) AllReadyH.nil
  go_simp
  refine (l_Rest_any _ _ _ T1 (by omega)).mono ?_
  rintro e w3 ⟨rfl, rfl⟩
  go_wp2_with fail
  refine hK.out _ _ hHeld (fun hHeld => ?_)
  clear hK K
  refine takeH (i := 8) (d := (some 7)) (v := ?v9) rfl rfl (by kernel_rfl) (by kernel_rfl) (by kernel_rfl) (fun _ _ _ h => h) (by rfl) ?hy9 (by assumption) ?_
  case hy9 => ((intro w hSw; (try dsimp only at hSw); (try go_split_ands); go_simp); try with_reducible rfl)
  simp only [Act.put, List.setIfInBounds_toArray, List.set_cons_zero, List.set_cons_succ]
  refine takeH (i := 9) (d := (some 8)) (v := ?v10) rfl rfl (by kernel_rfl) (by kernel_rfl) (by kernel_rfl) (fun _ _ _ h => h) (by rfl) ?hy10 (by assumption) ?_
  case hy10 => ((intro w hSw; (try dsimp only at hSw); (try go_split_ands); go_simp); try with_reducible rfl)
  simp only [Act.put, List.setIfInBounds_toArray, List.set_cons_zero, List.set_cons_succ]
  refine wpAnyH_done (by kernel_rfl) ?_ _
  obtain ⟨U3, c3, _⟩ := hHeld
  generalize n0 % T = i at *
  generalize n1 % T = k at *
  have f3 := cellB c3
  go_wp2_with fail
  refine (H2.out i _ U3 i0 i1).mono ?_
  rintro e w4 ⟨rfl, u4⟩
  have U4 := U3.trans u4
  have c4 := u4.blk c3
  have f4 := cellB c4
  have z4 := blk_lt c4
  clear u4 U3 c3 f3
  go_wp2_with fail
  obtain ⟨W5, hW5⟩ : ∃ W5, w4.alloc (.cells #[.int .i64 (fA i), .int .i64 (fB i), .int .i64 (fC i), .int .i64 (fS i)] 27) = W5 := ⟨_, rfl⟩
  have U5 : Up w W5 := by rw [← hW5]; exact U4.alloc _
  have c5 : mblk W5 w.heap.size = some (.cells #[.int .i64 h, .int .i64 m, .int .i64 s, .int .i64 d, .slice a n c] 24) := by rw [← hW5]; exact blk_keep _ c4
  have r5 : mblk W5 w4.heap.size = some (.cells #[.int .i64 (fA i), .int .i64 (fB i), .int .i64 (fC i), .int .i64 (fS i)] 27) := by rw [← hW5]; exact blk_new _ _ _ rfl
  have n5 := U4.size
  rw [hW5]
  obtain ⟨p, hp⟩ : ∃ p, w4.heap.size = p := ⟨_, rfl⟩
  rw [hp] at r5 n5 z4 ⊢
  clear hW5 U4 c4 f4 hp
  refine (H2.out k _ U5 k0 k1).mono ?_
  rintro e w6 ⟨rfl, u6⟩
  have U6 := U5.trans u6
  have c6 := u6.blk c5
  have r6 := u6.blk r5
  have f6 := cellB c6
  have g6 := cellB r6
  have z6 := blk_lt r6
  have z6' := blk_lt c6
  clear u6 U5 c5 r5
  go_wp2_with fail
  obtain ⟨W7, hW7⟩ : ∃ W7, w6.alloc (.cells #[.int .i64 (fA k), .int .i64 (fB k), .int .i64 (fC k), .int .i64 (fS k)] 27) = W7 := ⟨_, rfl⟩
  have U7 : Up w W7 := by rw [← hW7]; exact U6.alloc _
  have c7 : mblk W7 w.heap.size = some (.cells #[.int .i64 h, .int .i64 m, .int .i64 s, .int .i64 d, .slice a n c] 24) := by rw [← hW7]; exact blk_keep _ c6
  have r7 : mblk W7 p = some (.cells #[.int .i64 (fA i), .int .i64 (fB i), .int .i64 (fC i), .int .i64 (fS i)] 27) := by rw [← hW7]; exact blk_keep _ r6
  have s7 : mblk W7 w6.heap.size = some (.cells #[.int .i64 (fA k), .int .i64 (fB k), .int .i64 (fC k), .int .i64 (fS k)] 27) := by rw [← hW7]; exact blk_new _ _ _ rfl
  have n7 := U6.size
  rw [hW7]
  obtain ⟨p', hp'⟩ : ∃ p', w6.heap.size = p' := ⟨_, rfl⟩
  rw [hp'] at s7 n7 z6 z6' ⊢
  clear hW7 U6 c6 r6 f6 g6 hp'
  refine (H4.out i _ U7 i0 i1).mono ?_
  rintro e w8 ⟨rfl, u8⟩
  have U8 := U7.trans u8
  have c8 := u8.blk c7
  have r8 := u8.blk r7
  have s8 := u8.blk s7
  have f8 := cellB c8
  have g8 := cellB r8
  have h8 := cellB s8
  clear u8 U7 c7 r7 s7 H4
  have RI := HT.out i i0 i1
  have RK := HT.out k k0 k1
  have SI := RI.sec
  have iv := inB_yes SI.1 SI.2
  by_cases hT : i + 1 = T
  · have eT : (i + 1 == T) = true := by simp [hT]
    clear HT H2
    rcases Int.lt_trichotomy i k with hlt | heq | hgt
    · exfalso; omega
    · subst heq
      clear RI RK SI
      go_wp2_with (first
        | (go_at_call 42; refine (l_later_any _ _ _ _ _ _ _ _ _).mono ?_; rintro e w9 ⟨rfl, u9⟩; have gX := cellB (u9.blk r8); have fX := cellB (u9.blk c8))
        | (go_at_call 43; refine (l_Lies_any _ _ _ _).mono ?_; rintro e w' ⟨rfl, rfl⟩)
        | fail)
      have UX := U8
      have cX := c8
      have rX := r8
      have sX := s8
      clear U8 c8 r8 s8 g8 h8 f8
      refine (H3.out T _ UX (by omega)).mono ?_
      rintro e wA ⟨rfl, uA⟩
      go_wp2_with fail
      refine (l_works_any _).mono ?_
      rintro e wB ⟨rfl, uB⟩
      go_wp2
      go_ret
      exact ⟨rfl, ((UX.trans uA).alloc _).trans uB⟩
    · have nlt : ¬ i < k := by omega
      have neq : (i == k) = false := by simp; omega
      have hl := D.lt4_ahd (RK.before RI h1 h2 m1 m2 s1 s2 hgt)
      clear RI RK SI
      go_wp2_with (first
        | (go_at_call 42; refine (l_later_any _ _ _ _ _ _ _ _ _).mono ?_; rintro e w9 ⟨rfl, u9⟩; have gX := cellB (u9.blk r8); have fX := cellB (u9.blk c8))
        | (go_at_call 43; refine (l_Lies_any _ _ _ _).mono ?_; rintro e w' ⟨rfl, rfl⟩)
        | fail)
      have UX := U8.trans u9
      have cX := u9.blk c8
      have rX := u9.blk r8
      have sX := u9.blk s8
      clear u9 U8 c8 r8 s8 g8 h8 f8
      refine (H3.out T _ UX (by omega)).mono ?_
      rintro e wA ⟨rfl, uA⟩
      go_wp2_with fail
      refine (l_works_any _).mono ?_
      rintro e wB ⟨rfl, uB⟩
      go_wp2
      go_ret
      exact ⟨rfl, ((UX.trans uA).alloc _).trans uB⟩
  · have eT : (i + 1 == T) = false := by simp [hT]
    have RN := HT.out (i + 1) (by omega) (by omega)
    have hn := RI.next RN h1 h2 m1 m2 s1 s2
    have hl2 := D.lt4_ahd (RI.before RN h1 h2 m1 m2 s1 s2 (by omega))
    have sb := RI.sec
    clear HT RN H3
    rcases Int.lt_trichotomy i k with hlt | heq | hgt
    · have nlt : ¬ k < i := by omega
      have neq : (i == k) = false := by simp; omega
      have hl := D.lt4_ahd (RI.before RK h1 h2 m1 m2 s1 s2 hlt)
      clear RI RK SI
      go_wp2_with (first
        | (go_at_call 42; refine (l_later_any _ _ _ _ _ _ _ _ _).mono ?_; rintro e w9 ⟨rfl, u9⟩; have gX := cellB (u9.blk r8); have fX := cellB (u9.blk c8))
        | (go_at_call 43; refine (l_Lies_any _ _ _ _).mono ?_; rintro e w' ⟨rfl, rfl⟩)
        | fail)
      have UX := U8.trans u9
      have cX := u9.blk c8
      have rX := u9.blk r8
      have sX := u9.blk s8
      clear u9 U8 c8 r8 s8 g8 h8 f8
      refine (H2.out (i + 1) _ UX (by omega) (by omega)).mono ?_
      rintro e wA ⟨rfl, uA⟩
      have UA := UX.trans uA
      have cA := uA.blk cX
      have rA := uA.blk rX
      have sA := uA.blk sX
      have fz := frozB sA
      have gA := cellB rA
      have kA := cellB sA
      have zA := blk_lt rA
      have zB := blk_lt sA
      have zC := blk_lt cA
      clear uA UX cX rX sX gX fX H2
      generalize fA (i + 1) = A2 at *
      generalize fB (i + 1) = B2 at *
      generalize fC (i + 1) = C2 at *
      generalize fS (i + 1) = S2 at *
      generalize fA i = A1 at *
      generalize fB i = B1 at *
      generalize fC i = C1 at *
      generalize fS i = S1 at *
      rcases hn with ⟨rfl, rfl, rfl, rfl⟩ | ⟨rfl, hs⟩
      · clear hl2
        go_wp2_with fail
        refine (l_works_any _).mono ?_
        rintro e wB ⟨rfl, uB⟩
        go_wp2
        go_ret
        exact ⟨rfl, ((UA.set4 (by omega) _ _ _ _).alloc _).trans uB⟩
      · have e9 : (0 == S1 + 1) = false := by simp; omega
        have e9' : ((0 : Int) = S1 + 1) = False := by simp; omega
        have hs' : s - 2 ≤ S1 := hs
        by_cases q0 : A2 = A1
        · obtain rfl := q0.symm
          by_cases q1 : B2 = B1
          · obtain rfl := q1.symm
            by_cases q2 : C2 = C1
            · obtain rfl := q2.symm
              go_wp2_with fail
              refine (l_later_any _ _ _ _ _ _ _ _ _).mono ?_
              rintro e wB ⟨rfl, uB⟩
              rw [hl2]
              have gB := cellB (uB.blk (blk_keep (.cells #[.int .i64 A1, .int .i64 B1, .int .i64 C1, .int .i64 (S1 + 1)] 27) ((set4_other wA (show p ≠ p' by omega) _ _ _ _).trans rA)))
              have fB := cellB (uB.blk (blk_keep (.cells #[.int .i64 A1, .int .i64 B1, .int .i64 C1, .int .i64 (S1 + 1)] 27) ((set4_other wA (show w.heap.size ≠ p' by omega) _ _ _ _).trans cA)))
              have UB := ((UA.set4 (b := p') (by omega) _ _ _ _).alloc (.cells #[.int .i64 A1, .int .i64 B1, .int .i64 C1, .int .i64 (S1 + 1)] 27)).trans uB
              clear uB UA cA rA sA fz gA kA
              go_wp2_with fail
              refine (l_works_any _).mono ?_
              rintro e wC ⟨rfl, uC⟩
              go_wp2
              go_ret
              exact ⟨rfl, UB.trans uC⟩
            · have q2' : (C2 == C1) = false := by simp [q2]
              go_wp2_with fail
              refine (l_later_any _ _ _ _ _ _ _ _ _).mono ?_
              rintro e wB ⟨rfl, uB⟩
              rw [hl2]
              have gB := cellB (uB.blk (blk_keep (.cells #[.int .i64 A1, .int .i64 B1, .int .i64 C1, .int .i64 (S1 + 1)] 27) ((set4_other wA (show p ≠ p' by omega) _ _ _ _).trans rA)))
              have fB := cellB (uB.blk (blk_keep (.cells #[.int .i64 A1, .int .i64 B1, .int .i64 C1, .int .i64 (S1 + 1)] 27) ((set4_other wA (show w.heap.size ≠ p' by omega) _ _ _ _).trans cA)))
              have UB := ((UA.set4 (b := p') (by omega) _ _ _ _).alloc (.cells #[.int .i64 A1, .int .i64 B1, .int .i64 C1, .int .i64 (S1 + 1)] 27)).trans uB
              clear uB UA cA rA sA fz gA kA
              go_wp2_with fail
              refine (l_works_any _).mono ?_
              rintro e wC ⟨rfl, uC⟩
              go_wp2
              go_ret
              exact ⟨rfl, UB.trans uC⟩
          · have q1' : (B2 == B1) = false := by simp [q1]
            go_wp2_with fail
            refine (l_later_any _ _ _ _ _ _ _ _ _).mono ?_
            rintro e wB ⟨rfl, uB⟩
            rw [hl2]
            have gB := cellB (uB.blk (blk_keep (.cells #[.int .i64 A1, .int .i64 B1, .int .i64 C1, .int .i64 (S1 + 1)] 27) ((set4_other wA (show p ≠ p' by omega) _ _ _ _).trans rA)))
            have fB := cellB (uB.blk (blk_keep (.cells #[.int .i64 A1, .int .i64 B1, .int .i64 C1, .int .i64 (S1 + 1)] 27) ((set4_other wA (show w.heap.size ≠ p' by omega) _ _ _ _).trans cA)))
            have UB := ((UA.set4 (b := p') (by omega) _ _ _ _).alloc (.cells #[.int .i64 A1, .int .i64 B1, .int .i64 C1, .int .i64 (S1 + 1)] 27)).trans uB
            clear uB UA cA rA sA fz gA kA
            go_wp2_with fail
            refine (l_works_any _).mono ?_
            rintro e wC ⟨rfl, uC⟩
            go_wp2
            go_ret
            exact ⟨rfl, UB.trans uC⟩
        · have q0' : (A2 == A1) = false := by simp [q0]
          go_wp2_with fail
          refine (l_later_any _ _ _ _ _ _ _ _ _).mono ?_
          rintro e wB ⟨rfl, uB⟩
          rw [hl2]
          have gB := cellB (uB.blk (blk_keep (.cells #[.int .i64 A1, .int .i64 B1, .int .i64 C1, .int .i64 (S1 + 1)] 27) ((set4_other wA (show p ≠ p' by omega) _ _ _ _).trans rA)))
          have fB := cellB (uB.blk (blk_keep (.cells #[.int .i64 A1, .int .i64 B1, .int .i64 C1, .int .i64 (S1 + 1)] 27) ((set4_other wA (show w.heap.size ≠ p' by omega) _ _ _ _).trans cA)))
          have UB := ((UA.set4 (b := p') (by omega) _ _ _ _).alloc (.cells #[.int .i64 A1, .int .i64 B1, .int .i64 C1, .int .i64 (S1 + 1)] 27)).trans uB
          clear uB UA cA rA sA fz gA kA
          go_wp2_with fail
          refine (l_works_any _).mono ?_
          rintro e wC ⟨rfl, uC⟩
          go_wp2
          go_ret
          exact ⟨rfl, UB.trans uC⟩
    · subst heq
      clear RI RK SI
      go_wp2_with (first
        | (go_at_call 42; refine (l_later_any _ _ _ _ _ _ _ _ _).mono ?_; rintro e w9 ⟨rfl, u9⟩; have gX := cellB (u9.blk r8); have fX := cellB (u9.blk c8))
        | (go_at_call 43; refine (l_Lies_any _ _ _ _).mono ?_; rintro e w' ⟨rfl, rfl⟩)
        | fail)
      have UX := U8
      have cX := c8
      have rX := r8
      have sX := s8
      clear U8 c8 r8 s8 g8 h8 f8
      refine (H2.out (i + 1) _ UX (by omega) (by omega)).mono ?_
      rintro e wA ⟨rfl, uA⟩
      have UA := UX.trans uA
      have cA := uA.blk cX
      have rA := uA.blk rX
      have sA := uA.blk sX
      have fz := frozB sA
      have gA := cellB rA
      have kA := cellB sA
      have zA := blk_lt rA
      have zB := blk_lt sA
      have zC := blk_lt cA
      clear uA UX cX rX sX  H2
      generalize fA (i + 1) = A2 at *
      generalize fB (i + 1) = B2 at *
      generalize fC (i + 1) = C2 at *
      generalize fS (i + 1) = S2 at *
      generalize fA i = A1 at *
      generalize fB i = B1 at *
      generalize fC i = C1 at *
      generalize fS i = S1 at *
      rcases hn with ⟨rfl, rfl, rfl, rfl⟩ | ⟨rfl, hs⟩
      · clear hl2
        go_wp2_with fail
        refine (l_works_any _).mono ?_
        rintro e wB ⟨rfl, uB⟩
        go_wp2
        go_ret
        exact ⟨rfl, ((UA.set4 (by omega) _ _ _ _).alloc _).trans uB⟩
      · have e9 : (0 == S1 + 1) = false := by simp; omega
        have e9' : ((0 : Int) = S1 + 1) = False := by simp; omega
        have hs' : s - 2 ≤ S1 := hs
        by_cases q0 : A2 = A1
        · obtain rfl := q0.symm
          by_cases q1 : B2 = B1
          · obtain rfl := q1.symm
            by_cases q2 : C2 = C1
            · obtain rfl := q2.symm
              go_wp2_with fail
              refine (l_later_any _ _ _ _ _ _ _ _ _).mono ?_
              rintro e wB ⟨rfl, uB⟩
              rw [hl2]
              have gB := cellB (uB.blk (blk_keep (.cells #[.int .i64 A1, .int .i64 B1, .int .i64 C1, .int .i64 (S1 + 1)] 27) ((set4_other wA (show p ≠ p' by omega) _ _ _ _).trans rA)))
              have fB := cellB (uB.blk (blk_keep (.cells #[.int .i64 A1, .int .i64 B1, .int .i64 C1, .int .i64 (S1 + 1)] 27) ((set4_other wA (show w.heap.size ≠ p' by omega) _ _ _ _).trans cA)))
              have UB := ((UA.set4 (b := p') (by omega) _ _ _ _).alloc (.cells #[.int .i64 A1, .int .i64 B1, .int .i64 C1, .int .i64 (S1 + 1)] 27)).trans uB
              clear uB UA cA rA sA fz gA kA
              go_wp2_with fail
              refine (l_works_any _).mono ?_
              rintro e wC ⟨rfl, uC⟩
              go_wp2
              go_ret
              exact ⟨rfl, UB.trans uC⟩
            · have q2' : (C2 == C1) = false := by simp [q2]
              go_wp2_with fail
              refine (l_later_any _ _ _ _ _ _ _ _ _).mono ?_
              rintro e wB ⟨rfl, uB⟩
              rw [hl2]
              have gB := cellB (uB.blk (blk_keep (.cells #[.int .i64 A1, .int .i64 B1, .int .i64 C1, .int .i64 (S1 + 1)] 27) ((set4_other wA (show p ≠ p' by omega) _ _ _ _).trans rA)))
              have fB := cellB (uB.blk (blk_keep (.cells #[.int .i64 A1, .int .i64 B1, .int .i64 C1, .int .i64 (S1 + 1)] 27) ((set4_other wA (show w.heap.size ≠ p' by omega) _ _ _ _).trans cA)))
              have UB := ((UA.set4 (b := p') (by omega) _ _ _ _).alloc (.cells #[.int .i64 A1, .int .i64 B1, .int .i64 C1, .int .i64 (S1 + 1)] 27)).trans uB
              clear uB UA cA rA sA fz gA kA
              go_wp2_with fail
              refine (l_works_any _).mono ?_
              rintro e wC ⟨rfl, uC⟩
              go_wp2
              go_ret
              exact ⟨rfl, UB.trans uC⟩
          · have q1' : (B2 == B1) = false := by simp [q1]
            go_wp2_with fail
            refine (l_later_any _ _ _ _ _ _ _ _ _).mono ?_
            rintro e wB ⟨rfl, uB⟩
            rw [hl2]
            have gB := cellB (uB.blk (blk_keep (.cells #[.int .i64 A1, .int .i64 B1, .int .i64 C1, .int .i64 (S1 + 1)] 27) ((set4_other wA (show p ≠ p' by omega) _ _ _ _).trans rA)))
            have fB := cellB (uB.blk (blk_keep (.cells #[.int .i64 A1, .int .i64 B1, .int .i64 C1, .int .i64 (S1 + 1)] 27) ((set4_other wA (show w.heap.size ≠ p' by omega) _ _ _ _).trans cA)))
            have UB := ((UA.set4 (b := p') (by omega) _ _ _ _).alloc (.cells #[.int .i64 A1, .int .i64 B1, .int .i64 C1, .int .i64 (S1 + 1)] 27)).trans uB
            clear uB UA cA rA sA fz gA kA
            go_wp2_with fail
            refine (l_works_any _).mono ?_
            rintro e wC ⟨rfl, uC⟩
            go_wp2
            go_ret
            exact ⟨rfl, UB.trans uC⟩
        · have q0' : (A2 == A1) = false := by simp [q0]
          go_wp2_with fail
          refine (l_later_any _ _ _ _ _ _ _ _ _).mono ?_
          rintro e wB ⟨rfl, uB⟩
          rw [hl2]
          have gB := cellB (uB.blk (blk_keep (.cells #[.int .i64 A1, .int .i64 B1, .int .i64 C1, .int .i64 (S1 + 1)] 27) ((set4_other wA (show p ≠ p' by omega) _ _ _ _).trans rA)))
          have fB := cellB (uB.blk (blk_keep (.cells #[.int .i64 A1, .int .i64 B1, .int .i64 C1, .int .i64 (S1 + 1)] 27) ((set4_other wA (show w.heap.size ≠ p' by omega) _ _ _ _).trans cA)))
          have UB := ((UA.set4 (b := p') (by omega) _ _ _ _).alloc (.cells #[.int .i64 A1, .int .i64 B1, .int .i64 C1, .int .i64 (S1 + 1)] 27)).trans uB
          clear uB UA cA rA sA fz gA kA
          go_wp2_with fail
          refine (l_works_any _).mono ?_
          rintro e wC ⟨rfl, uC⟩
          go_wp2
          go_ret
          exact ⟨rfl, UB.trans uC⟩
    · have nlt : ¬ i < k := by omega
      have neq : (i == k) = false := by simp; omega
      have hl := D.lt4_ahd (RK.before RI h1 h2 m1 m2 s1 s2 hgt)
      clear RI RK SI
      go_wp2_with (first
        | (go_at_call 42; refine (l_later_any _ _ _ _ _ _ _ _ _).mono ?_; rintro e w9 ⟨rfl, u9⟩; have gX := cellB (u9.blk r8); have fX := cellB (u9.blk c8))
        | (go_at_call 43; refine (l_Lies_any _ _ _ _).mono ?_; rintro e w' ⟨rfl, rfl⟩)
        | fail)
      have UX := U8.trans u9
      have cX := u9.blk c8
      have rX := u9.blk r8
      have sX := u9.blk s8
      clear u9 U8 c8 r8 s8 g8 h8 f8
      refine (H2.out (i + 1) _ UX (by omega) (by omega)).mono ?_
      rintro e wA ⟨rfl, uA⟩
      have UA := UX.trans uA
      have cA := uA.blk cX
      have rA := uA.blk rX
      have sA := uA.blk sX
      have fz := frozB sA
      have gA := cellB rA
      have kA := cellB sA
      have zA := blk_lt rA
      have zB := blk_lt sA
      have zC := blk_lt cA
      clear uA UX cX rX sX gX fX H2
      generalize fA (i + 1) = A2 at *
      generalize fB (i + 1) = B2 at *
      generalize fC (i + 1) = C2 at *
      generalize fS (i + 1) = S2 at *
      generalize fA i = A1 at *
      generalize fB i = B1 at *
      generalize fC i = C1 at *
      generalize fS i = S1 at *
      rcases hn with ⟨rfl, rfl, rfl, rfl⟩ | ⟨rfl, hs⟩
      · clear hl2
        go_wp2_with fail
        refine (l_works_any _).mono ?_
        rintro e wB ⟨rfl, uB⟩
        go_wp2
        go_ret
        exact ⟨rfl, ((UA.set4 (by omega) _ _ _ _).alloc _).trans uB⟩
      · have e9 : (0 == S1 + 1) = false := by simp; omega
        have e9' : ((0 : Int) = S1 + 1) = False := by simp; omega
        have hs' : s - 2 ≤ S1 := hs
        by_cases q0 : A2 = A1
        · obtain rfl := q0.symm
          by_cases q1 : B2 = B1
          · obtain rfl := q1.symm
            by_cases q2 : C2 = C1
            · obtain rfl := q2.symm
              go_wp2_with fail
              refine (l_later_any _ _ _ _ _ _ _ _ _).mono ?_
              rintro e wB ⟨rfl, uB⟩
              rw [hl2]
              have gB := cellB (uB.blk (blk_keep (.cells #[.int .i64 A1, .int .i64 B1, .int .i64 C1, .int .i64 (S1 + 1)] 27) ((set4_other wA (show p ≠ p' by omega) _ _ _ _).trans rA)))
              have fB := cellB (uB.blk (blk_keep (.cells #[.int .i64 A1, .int .i64 B1, .int .i64 C1, .int .i64 (S1 + 1)] 27) ((set4_other wA (show w.heap.size ≠ p' by omega) _ _ _ _).trans cA)))
              have UB := ((UA.set4 (b := p') (by omega) _ _ _ _).alloc (.cells #[.int .i64 A1, .int .i64 B1, .int .i64 C1, .int .i64 (S1 + 1)] 27)).trans uB
              clear uB UA cA rA sA fz gA kA
              go_wp2_with fail
              refine (l_works_any _).mono ?_
              rintro e wC ⟨rfl, uC⟩
              go_wp2
              go_ret
              exact ⟨rfl, UB.trans uC⟩
            · have q2' : (C2 == C1) = false := by simp [q2]
              go_wp2_with fail
              refine (l_later_any _ _ _ _ _ _ _ _ _).mono ?_
              rintro e wB ⟨rfl, uB⟩
              rw [hl2]
              have gB := cellB (uB.blk (blk_keep (.cells #[.int .i64 A1, .int .i64 B1, .int .i64 C1, .int .i64 (S1 + 1)] 27) ((set4_other wA (show p ≠ p' by omega) _ _ _ _).trans rA)))
              have fB := cellB (uB.blk (blk_keep (.cells #[.int .i64 A1, .int .i64 B1, .int .i64 C1, .int .i64 (S1 + 1)] 27) ((set4_other wA (show w.heap.size ≠ p' by omega) _ _ _ _).trans cA)))
              have UB := ((UA.set4 (b := p') (by omega) _ _ _ _).alloc (.cells #[.int .i64 A1, .int .i64 B1, .int .i64 C1, .int .i64 (S1 + 1)] 27)).trans uB
              clear uB UA cA rA sA fz gA kA
              go_wp2_with fail
              refine (l_works_any _).mono ?_
              rintro e wC ⟨rfl, uC⟩
              go_wp2
              go_ret
              exact ⟨rfl, UB.trans uC⟩
          · have q1' : (B2 == B1) = false := by simp [q1]
            go_wp2_with fail
            refine (l_later_any _ _ _ _ _ _ _ _ _).mono ?_
            rintro e wB ⟨rfl, uB⟩
            rw [hl2]
            have gB := cellB (uB.blk (blk_keep (.cells #[.int .i64 A1, .int .i64 B1, .int .i64 C1, .int .i64 (S1 + 1)] 27) ((set4_other wA (show p ≠ p' by omega) _ _ _ _).trans rA)))
            have fB := cellB (uB.blk (blk_keep (.cells #[.int .i64 A1, .int .i64 B1, .int .i64 C1, .int .i64 (S1 + 1)] 27) ((set4_other wA (show w.heap.size ≠ p' by omega) _ _ _ _).trans cA)))
            have UB := ((UA.set4 (b := p') (by omega) _ _ _ _).alloc (.cells #[.int .i64 A1, .int .i64 B1, .int .i64 C1, .int .i64 (S1 + 1)] 27)).trans uB
            clear uB UA cA rA sA fz gA kA
            go_wp2_with fail
            refine (l_works_any _).mono ?_
            rintro e wC ⟨rfl, uC⟩
            go_wp2
            go_ret
            exact ⟨rfl, UB.trans uC⟩
        · have q0' : (A2 == A1) = false := by simp [q0]
          go_wp2_with fail
          refine (l_later_any _ _ _ _ _ _ _ _ _).mono ?_
          rintro e wB ⟨rfl, uB⟩
          rw [hl2]
          have gB := cellB (uB.blk (blk_keep (.cells #[.int .i64 A1, .int .i64 B1, .int .i64 C1, .int .i64 (S1 + 1)] 27) ((set4_other wA (show p ≠ p' by omega) _ _ _ _).trans rA)))
          have fB := cellB (uB.blk (blk_keep (.cells #[.int .i64 A1, .int .i64 B1, .int .i64 C1, .int .i64 (S1 + 1)] 27) ((set4_other wA (show w.heap.size ≠ p' by omega) _ _ _ _).trans cA)))
          have UB := ((UA.set4 (b := p') (by omega) _ _ _ _).alloc (.cells #[.int .i64 A1, .int .i64 B1, .int .i64 C1, .int .i64 (S1 + 1)] 27)).trans uB
          clear uB UA cA rA sA fz gA kA
          go_wp2_with fail
          refine (l_works_any _).mono ?_
          rintro e wC ⟨rfl, uC⟩
          go_wp2
          go_ret
          exact ⟨rfl, UB.trans uC⟩
end Go.Proofs.Ytnaibklajocejaa
