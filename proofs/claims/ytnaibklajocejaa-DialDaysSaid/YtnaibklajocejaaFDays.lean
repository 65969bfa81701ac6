import Derived.Test.YtnaibklajocejaaTickB
import Derived.Test.YtnaibklajocejaaFInv
/- The walk of the law DialDays. -/
namespace Go.Proofs.Ytnaibklajocejaa
open Go.RowKit
attribute [local go_sem] cell_CAL

set_option maxRecDepth 100000 in
set_option maxHeartbeats 5000000 in
theorem dialDays_any {h m s d : Int} {a : Option Addr} {n c : Nat} {L : List (Int × Bool)} {w : World} (A : CalArg w a n c L) (n0 : Int) :
    Calls Try.prog 8 #[.agg #[.int .i64 h, .int .i64 m, .int .i64 s, .int .i64 d, .slice a n c], .int .i64 n0] w fun e w' => e = .returned (.bool true) ∧ Up w w' := by
  have U0 := (Up.refl w).alloc (.cells #[.int .i64 h, .int .i64 m, .int .i64 s, .int .i64 d, .slice a n c] 24)
  have A0 := A.up U0
  have H0 := Lib.hid (l_sound_any (h := h) (m := m) (s := s) (d := d) A0)
  cases hv : D.valid h m s d L
  · rw [hv] at H0
    clear A A0 hv U0
    go_enter Try.func8, Try.ntmps8
    go_wp2_with fail
    refine H0.out.mono ?_
    rintro e w1 ⟨rfl, u1⟩
    go_wp2_with fail
    refine (l_works_any _).mono ?_
    rintro e w2 ⟨rfl, u2⟩
    go_wp2
    go_ret
    exact ⟨rfl, ((Up.refl w).alloc _).trans (u1.trans u2)⟩
  rw [hv] at H0
  obtain ⟨h1, h2, m1, m2, s1, s2, d1, d2⟩ := D.valid_bd hv
  obtain ⟨P1, P2⟩ := D.mul_bd h m h1 h2 m1 m2
  obtain ⟨Q1, Q2⟩ := D.mul_bd2 (h * m) s (by omega) P2 (by omega) s2
  have tb := D.beg_bd h m s (D.deeds L L.length) h1 h2 m1 m2 s1 s2
  obtain ⟨dn, rfl⟩ : ∃ dn : Nat, d = dn := ⟨d.toNat, by omega⟩
  have bs := fun k => D.beg_succ h m s (D.deeds L L.length) k
  have lb := fun k => D.len_bd h m s (D.deeds L L.length k) h1 h2 m1 m2 s1 s2
  have bm := fun k j => D.beg_mono h m s (D.deeds L L.length) h1 h2 m1 m2 s1 s2 k j
  have HLen := Lib.hid (fun (k : Nat) w' (u : Up w w') (hk : (k : Int) < dn) => Length_yes (h := h) (m := m) (s := s) (A.up u) k hv hk)
  have HTot := Lib.hid (fun w' (u : Up w w') => l_ticksOf_any (h := h) (m := m) (s := s) (A.up u) hv)
  have HFst := Lib.hid (fun (k : Nat) w' (u : Up w w') (hk : (k : Int) < dn) => show Calls Try.prog 23 #[.agg #[.int .i64 h, .int .i64 m, .int .i64 s, .int .i64 (dn : Int), .slice a n c], rd k 0 0 0] w' fun e w'' => e = .returned (.tuple #[.int .i64 (D.beg h m s (D.deeds L L.length) k), .int .i64 0]) ∧ Up w' w'' by
    have K := Tick_any (h := h) (m := m) (s := s) (d := dn) (A.up u) k 0 0 0
    have l := bm (k + 1) dn (by omega)
    have b := bs k
    have c := lb k
    have t := tb k
    have r := D.rd_is (h := h) (m := m) (s := s) (x := D.deeds L L.length) (n := dn) (t := D.beg h m s (D.deeds L L.length) k) h1 m1 s1 (by omega) (by omega)
    obtain ⟨e0, e1, e2, e3⟩ := r.first h1 h2 m1 m2 s1 s2
    have i := r.isRd h1 h2 m1 m2 (by omega)
    have tk := r.tk
    rw [e0, e1, e2, e3] at i tk
    rw [D.tickV, if_pos hv, if_pos i, tk] at K
    exact K)
  have HEnd := Lib.hid (fun w' (u : Up w w') => show Calls Try.prog 23 #[.agg #[.int .i64 h, .int .i64 m, .int .i64 s, .int .i64 (dn : Int), .slice a n c], rd dn 0 0 0] w' fun e w'' => e = .returned (.tuple #[.int .i64 0, .int .i64 4]) ∧ Up w' w'' by
    have K := Tick_any (h := h) (m := m) (s := s) (d := dn) (A.up u) dn 0 0 0
    have i : D.isRd h m s dn (D.deeds L L.length) dn 0 0 0 = false := by
      have : inB (dn : Int) 0 ((dn : Int) - 1) = false := inB_no (by omega)
      rw [D.isRd, this]; rfl
    rw [D.tickV, if_pos hv, i] at K
    exact K)
  have HLast := Lib.hid (fun (k : Nat) w' (u : Up w w') (hk : (k : Int) < dn) => show ∃ S, Calls Try.prog 21 #[.agg #[.int .i64 h, .int .i64 m, .int .i64 s, .int .i64 (dn : Int), .slice a n c], .int .i64 (D.beg h m s (D.deeds L L.length) k + D.len h m s (D.deeds L L.length k) - 1)] w' fun e w'' => e = .returned (.tuple #[rd k (h - 1) (m - 1) S, .int .i64 0]) ∧ Up w' w'' by
    have l := bm (k + 1) dn (by omega)
    have b := bs k
    have c := lb k
    have t := tb k
    have K := Reading_rd (h := h) (m := m) (s := s) (d := dn) (A.up u) (D.beg h m s (D.deeds L L.length) k + D.len h m s (D.deeds L L.length k) - 1) hv (by omega) (by rw [Int.toNat_natCast]; omega)
    rw [Int.toNat_natCast] at K
    have r := D.rd_is (h := h) (m := m) (s := s) (x := D.deeds L L.length) (n := dn) (t := D.beg h m s (D.deeds L L.length) k + D.len h m s (D.deeds L L.length k) - 1) h1 m1 s1 (by omega) (by omega)
    obtain ⟨e0, e1, e2⟩ := r.final rfl h1 h2 m1 m2 s1 s2
    rw [e0, e1, e2] at K
    exact ⟨_, K⟩)
  have HMore : ∀ k j, j < n → (L.getD j (0, false)).1 = (k : Nat) → D.deeds L j k = 0 := fun k j hj e => D.deeds_none L k j (fun i hi => by
    have hl := A.len
    simp only [D.valid, Bool.and_eq_true] at hv
    have q := D.incr_lt hv.2.2 i j hi (by rw [List.length_map]; omega)
    have g : ∀ i, i < n → (L.map (·.1)).getD i 0 = (L.getD i (0, false)).1 := fun i hi => by
      rw [List.getD_eq_getElem?_getD, List.getElem?_map, List.getD_eq_getElem?_getD, List.getElem?_eq_getElem (by omega)]
      rfl
    rw [g i (by omega), g j hj] at q
    omega)
  have HM := Lib.hid HMore
  have hl := A.len
  have n10 : n ≤ 10 := by
    simp only [D.valid, Bool.and_eq_true, decide_eq_true_eq] at hv
    omega
  have HL : ∀ k : Nat, D.len h m s (D.deeds L L.length k) = h * m * s + D.more (D.deeds L n k) := fun k => by rw [hl]; exact D.len_more h m s _
  have HLL := Lib.hid HL
  have bs0 : D.beg h m s (D.deeds L L.length) 0 = 0 := rfl
  have e1 : IntKind.i64.wrap (h * m) = h * m := IntWalk.i64_in _ (by omega)
  have e2 : IntKind.i64.wrap (h * m * s) = h * m * s := IntWalk.i64_in _ (by omega)
  have HA := Lib.hid (fun w' (u : Up w w') => (A.up u).mem)
  have HN := Lib.hid hl
  clear A A0 hv HMore HL hl
  rw [Int.toNat_natCast] at HTot
  generalize hbeg : D.beg h m s (D.deeds L L.length) = beg at *
  generalize hlen : (fun k => D.len h m s (D.deeds L L.length k)) = len at *
  have hlen' : ∀ k, D.len h m s (D.deeds L L.length k) = len k := fun k => by rw [← hlen]
  simp only [hlen'] at *
  clear hbeg hlen hlen'
  go_enter Try.func8, Try.ntmps8
  go_wp2_with fail
  have c0 : mblk (w.alloc (.cells #[.int .i64 h, .int .i64 m, .int .i64 s, .int .i64 (dn : Int), .slice a n c] 24)) w.heap.size = some (.cells #[.int .i64 h, .int .i64 m, .int .i64 s, .int .i64 (dn : Int), .slice a n c] 24) := blk_new _ _ _ rfl
  refine H0.out.mono ?_
  rintro e w1 ⟨rfl, u1⟩
  have U1 := U0.trans u1
  have c1 := u1.blk c0
  have f1 := cellB c1
  clear u1 U0 c0 H0
  go_wp2_with fail
  refine (HTot.out _ U1).mono ?_
  rintro e w2 ⟨rfl, u2⟩
  have U2 := U1.trans u2
  have c2 := u2.blk c1
  clear u2 U1 c1 f1 HTot
  go_wp2_with fail
  go_loopw [6, 7, 8] (fun o sm dd wr => o = .bool true ∧ ∃ k : Nat, k ≤ dn ∧ sm = .int .i64 (beg k) ∧ dd = .int .i64 k ∧ mblk wr w.heap.size = some (.cells #[.int .i64 h, .int .i64 m, .int .i64 s, .int .i64 (dn : Int), .slice a n c] 24) ∧ Up w wr) (fun _ _ dd _ => dn - (intOf dd).toNat)
  case atStart => exact ⟨rfl, 0, Nat.zero_le _, by rw [bs0], rfl, c2, U2⟩
  case round =>
    obtain ⟨rfl, k, hk, rfl, rfl, ck, Uk⟩ := hrel
    have fk := cellB ck
    by_cases hlt : k < dn
    · have hb := bs k
      have hlk := lb k
      have htk := tb k
      have hz := HLL.out k
      clear bs lb tb bm
      go_wp2_with fail
      go_loopw [9, 10] (fun wt i wr => ∃ j : Nat, j ≤ n ∧ wt = .int .i64 (h * m * s + D.more (D.deeds L j k)) ∧ i = .int .i64 j ∧ mblk wr w.heap.size = some (.cells #[.int .i64 h, .int .i64 m, .int .i64 s, .int .i64 (dn : Int), .slice a n c] 24) ∧ Up w wr) (fun _ i _ => n - (intOf i).toNat)
      case atStart => exact ⟨0, Nat.zero_le _, by simp [D.deeds, D.more], rfl, ck, Uk⟩
      case round =>
        obtain ⟨j, hj, rfl, rfl, cj, Uj⟩ := hrel
        have fj := cellB cj
        by_cases hjl : j < n
        · obtain ⟨b, off, rfl, hD⟩ := HA.out _ Uj (by omega)
          have y1 := hD.day j (by rw [← HN.out]; exact hjl)
          have y2 := hD.plus j (by rw [← HN.out]; exact hjl)
          have dm : D.deeds L (j + 1) k = if (k : Int) = (L.getD j (0, false)).1 then (if (L.getD j (0, false)).2 = true then 1 else 2) else D.deeds L j k := rfl
          have d0 := HM.out k j hjl
          generalize (L.getD j (0, false)).1 = q at *
          generalize (L.getD j (0, false)).2 = pl at *
          by_cases e : q = (k : Int)
          · subst e
            rw [d0 rfl]
            rw [if_pos rfl] at dm
            have m0 : D.more 0 = 0 := rfl
            rw [m0]
            have HD := Lib.hid dm
            cases pl
            · have e5 : IntKind.i64.wrap (h * m * s + 0 - 1) = h * m * s - 1 := by rw [IntWalk.i64_in _ (by omega)]; omega
              clear dm d0 hD
              go_wp2
              go_roundw
              case rel => exact ⟨j + 1, by omega, by rw [HD.out]; simp [D.more]; omega, by go_num, cj, Uj⟩
              case measure => simp [intOf]; omega
            · have e5 : IntKind.i64.wrap (h * m * s + 0 + 1) = h * m * s + 1 := by rw [IntWalk.i64_in _ (by omega)]; omega
              clear dm d0 hD
              go_wp2
              go_roundw
              case rel => exact ⟨j + 1, by omega, by rw [HD.out]; simp [D.more], by go_num, cj, Uj⟩
              case measure => simp [intOf]; omega
          · have ne : (q == (k : Int)) = false := by simp [e]
            rw [if_neg (fun h => e h.symm)] at dm
            have HD := Lib.hid dm
            clear dm d0 hD
            go_wp2
            go_roundw
            case rel => exact ⟨j + 1, by omega, by rw [HD.out], by go_num, cj, Uj⟩
            case measure => simp [intOf]; omega
        · obtain rfl : n = j := by omega
          have t1 : (len k == h * m * s + D.more (D.deeds L n k)) = true := by rw [hz]; simp
          have t2 : IntKind.i64.wrap (beg k + len k) = beg k + len k := IntWalk.i64_in _ (by omega)
          have HB := Lib.hid hb
          clear hz hb
          go_wp2_with fail
          refine (HLen.out k _ Uj (by omega)).mono ?_
          rintro e w5 ⟨rfl, u5⟩
          have U5 := Uj.trans u5
          have c5 := u5.blk cj
          clear u5 Uj cj fj Uk ck fk HLen
          go_wp2_with fail
          refine wp_region_held_drew (S := fun w' => Up w w' ∧ mblk w' w.heap.size = some (.cells #[.int .i64 h, .int .i64 m, .int .i64 s, .int .i64 (dn : Int), .slice a n c] 24 (0, 0))) (by kernel_rfl) ⟨U5.drew, by rw [blk_drew]; exact c5⟩ (fun hHeld => ?_)
          clear U5 c5
          refine takeH (i := 0) (d := (some 92)) (v := ?v1) rfl rfl (by kernel_rfl) (by kernel_rfl) (by kernel_rfl) (fun _ _ _ h => h) (by rfl) ?hy1 (by assumption) ?_
          case hy1 => ((intro w hSw; (try dsimp only at hSw); (try go_split_ands); go_simp); try with_reducible rfl)
          simp only [Act.put, List.setIfInBounds_toArray, List.set_cons_zero, List.set_cons_succ]
          refine takeH (i := 1) (d := (some 93)) (v := ?v2) rfl rfl (by kernel_rfl) (by kernel_rfl) (by kernel_rfl) (fun _ _ _ h => h) (by rfl) ?hy2 (by assumption) ?_
          case hy2 => ((intro w hSw; (try dsimp only at hSw); (try go_split_ands); go_simp); try with_reducible rfl)
          simp only [Act.put, List.setIfInBounds_toArray, List.set_cons_zero, List.set_cons_succ]
          refine wpAnyH_ready (rs := [2]) (by kernel_rfl) (by simp) ?_
          refine AllReadyH.cons rfl (fun K hK => ?_) AllReadyH.nil
          go_simp
          refine (l_at_any _ _ _ _ _).mono ?_
          rintro e w6 ⟨rfl, u6⟩
          go_wp2_with fail
          refine hK.out _ _ ⟨hHeld.1.trans u6, u6.blk hHeld.2⟩ (fun hHeld => ?_)
          clear hK K u6
          refine wpAnyH_ready (rs := [3]) (by kernel_rfl) (by simp) ?_
          refine AllReadyH.cons rfl (fun K hK => ?_) AllReadyH.nil
          go_simp
          refine (HFst.out k _ hHeld.1 (by omega)).mono ?_
          rintro e w7 ⟨rfl, u7⟩
          go_wp2_with fail
          refine hK.out _ _ ⟨hHeld.1.trans u7, u7.blk hHeld.2⟩ (fun hHeld => ?_)
          clear hK K u7
          refine takeH (i := 4) (d := (some 91)) (v := ?v5) rfl rfl (by kernel_rfl) (by kernel_rfl) (by kernel_rfl) (fun _ _ _ h => h) (by rfl) ?hy5 (by assumption) ?_
          case hy5 => ((intro w hSw; (try dsimp only at hSw); (try go_split_ands); go_simp); try with_reducible rfl)
          simp only [Act.put, List.setIfInBounds_toArray, List.set_cons_zero, List.set_cons_succ]
          refine takeH (i := 5) (d := (some 96)) (v := ?v6) rfl rfl (by kernel_rfl) (by kernel_rfl) (by kernel_rfl) (fun _ _ _ h => h) (by rfl) ?hy6 (by assumption) ?_
          case hy6 => ((intro w hSw; (try dsimp only at hSw); (try go_split_ands); go_simp); try with_reducible rfl)
          simp only [Act.put, List.setIfInBounds_toArray, List.set_cons_zero, List.set_cons_succ]
          refine takeH (i := 6) (d := (some 97)) (v := ?v7) rfl rfl (by kernel_rfl) (by kernel_rfl) (by kernel_rfl) (fun _ _ _ h => h) (by rfl) ?hy7 (by assumption) ?_
          case hy7 => ((intro w hSw; (try dsimp only at hSw); (try go_split_ands); go_simp); try with_reducible rfl)
          simp only [Act.put, List.setIfInBounds_toArray, List.set_cons_zero, List.set_cons_succ]
          refine takeH (i := 7) (d := (some 13)) (v := ?v8) rfl rfl (by kernel_rfl) (by kernel_rfl) (by kernel_rfl) (fun _ _ _ h => h) (by rfl) ?hy8 (by assumption) ?_
          case hy8 => ((intro w hSw; (try dsimp only at hSw); (try go_split_ands); go_simp); try with_reducible rfl)
          simp only [Act.put, List.setIfInBounds_toArray, List.set_cons_zero, List.set_cons_succ]
          refine takeH (i := 8) (d := (some 14)) (v := ?v9) rfl rfl (by kernel_rfl) (by kernel_rfl) (by kernel_rfl) (fun _ _ _ h => h) (by rfl) ?hy9 (by assumption) ?_
          case hy9 => ((intro w hSw; (try dsimp only at hSw); (try go_split_ands); go_simp); try with_reducible rfl)
          simp only [Act.put, List.setIfInBounds_toArray, List.set_cons_zero, List.set_cons_succ]
          refine wpAnyH_done (by kernel_rfl) ?_ _
          obtain ⟨U8, c8⟩ := hHeld
          clear HFst HEnd HLast HLL HM HA HN
          go_wp2
          go_roundw
          case rel => exact ⟨rfl, k + 1, by omega, by rw [HB.out], by go_num, c8, U8⟩
          case measure => simp [intOf]; omega
    · obtain rfl : k = dn := by omega
      have r0 := Int.emod_nonneg n0 (show (k : Int) ≠ 0 by omega)
      have r1 := Int.emod_lt_of_pos n0 (show (0 : Int) < k by omega)
      obtain ⟨y, hy⟩ : ∃ y : Nat, n0 % (k : Int) = y := ⟨(n0 % (k : Int)).toNat, by omega⟩
      rw [hy] at r0 r1
      have ty := tb y
      have ly := lb y
      have my := bm (y + 1) k (by omega)
      have by' := bs y
      have tk := tb k
      have w1' : IntKind.i64.wrap (beg y + len y) = beg y + len y := IntWalk.i64_in _ (by omega)
      have w2' : IntKind.i64.wrap (beg y + len y - 1) = beg y + len y - 1 := IntWalk.i64_in _ (by omega)
      have HF := HFst.out y
      have HG := HFst.out (y + 1)
      have HS := HLast.out y
      have HLy := HLen.out y
      have e3 : ((y + 1 : Nat) : Int) = (y : Int) + 1 := rfl
      have ewy := IntWalk.i64_in ((y : Int) + 1) (by omega)
      rw [e3] at HG
      have HFF := Lib.hid HF
      have HGG := Lib.hid HG
      have HSS := Lib.hid HS
      have HYY := Lib.hid HLy
      clear HF HG HS HLy HFst HLast HLen HLL HM HA HN bs lb tb bm e3
      go_wp2_with fail
      refine (l_Rest_any _ _ _ (by omega) (by omega)).mono ?_
      rintro e w5 ⟨rfl, rfl⟩
      rw [hy]
      go_wp2_with fail
      refine wp_region_held_drew (S := fun w' => Up w w' ∧ mblk w' w.heap.size = some (.cells #[.int .i64 h, .int .i64 m, .int .i64 s, .int .i64 (k : Int), .slice a n c] 24 (0, 0))) (by kernel_rfl) ⟨Uk.drew, by rw [blk_drew]; exact ck⟩ (fun hHeld => ?_)
      clear Uk ck fk
      refine takeH (i := 0) (d := (some 129)) (v := ?v10) rfl rfl (by kernel_rfl) (by kernel_rfl) (by kernel_rfl) (fun _ _ _ h => h) (by rfl) ?hy10 (by assumption) ?_
      case hy10 => ((intro w hSw; (try dsimp only at hSw); (try go_split_ands); go_simp); try with_reducible rfl)
      simp only [Act.put, List.setIfInBounds_toArray, List.set_cons_zero, List.set_cons_succ]
      refine takeH (i := 1) (d := (some 130)) (v := ?v11) rfl rfl (by kernel_rfl) (by kernel_rfl) (by kernel_rfl) (fun _ _ _ h => h) (by rfl) ?hy11 (by assumption) ?_
      case hy11 => ((intro w hSw; (try dsimp only at hSw); (try go_split_ands); go_simp); try with_reducible rfl)
      simp only [Act.put, List.setIfInBounds_toArray, List.set_cons_zero, List.set_cons_succ]
      refine wpAnyH_ready (rs := [2]) (by kernel_rfl) (by simp) ?_
      refine AllReadyH.cons rfl (fun K hK => ?_) AllReadyH.nil
      go_simp
      refine (l_at_any _ _ _ _ _).mono ?_
      rintro e w6 ⟨rfl, u6⟩
      go_wp2_with fail
      refine hK.out _ _ ⟨hHeld.1.trans u6, u6.blk hHeld.2⟩ (fun hHeld => ?_)
      clear hK K u6
      refine wpAnyH_ready (rs := [3]) (by kernel_rfl) (by simp) ?_
      refine AllReadyH.cons rfl (fun K hK => ?_) AllReadyH.nil
      go_simp
      refine (HFF.out _ hHeld.1 (by omega)).mono ?_
      rintro e w7 ⟨rfl, u7⟩
      go_wp2_with fail
      refine hK.out _ _ ⟨hHeld.1.trans u7, u7.blk hHeld.2⟩ (fun hHeld => ?_)
      clear hK K u7
      refine takeH (i := 4) (d := (some 128)) (v := ?v14) rfl rfl (by kernel_rfl) (by kernel_rfl) (by kernel_rfl) (fun _ _ _ h => h) (by rfl) ?hy14 (by assumption) ?_
      case hy14 => ((intro w hSw; (try dsimp only at hSw); (try go_split_ands); go_simp); try with_reducible rfl)
      simp only [Act.put, List.setIfInBounds_toArray, List.set_cons_zero, List.set_cons_succ]
      refine takeH (i := 5) (d := (some 133)) (v := ?v15) rfl rfl (by kernel_rfl) (by kernel_rfl) (by kernel_rfl) (fun _ _ _ h => h) (by rfl) ?hy15 (by assumption) ?_
      case hy15 => ((intro w hSw; (try dsimp only at hSw); (try go_split_ands); go_simp); try with_reducible rfl)
      simp only [Act.put, List.setIfInBounds_toArray, List.set_cons_zero, List.set_cons_succ]
      refine takeH (i := 6) (d := (some 134)) (v := ?v16) rfl rfl (by kernel_rfl) (by kernel_rfl) (by kernel_rfl) (fun _ _ _ h => h) (by rfl) ?hy16 (by assumption) ?_
      case hy16 => ((intro w hSw; (try dsimp only at hSw); (try go_split_ands); go_simp); try with_reducible rfl)
      simp only [Act.put, List.setIfInBounds_toArray, List.set_cons_zero, List.set_cons_succ]
      refine takeH (i := 7) (d := (some 16)) (v := ?v17) rfl rfl (by kernel_rfl) (by kernel_rfl) (by kernel_rfl) (fun _ _ _ h => h) (by rfl) ?hy17 (by assumption) ?_
      case hy17 => ((intro w hSw; (try dsimp only at hSw); (try go_split_ands); go_simp); try with_reducible rfl)
      simp only [Act.put, List.setIfInBounds_toArray, List.set_cons_zero, List.set_cons_succ]
      refine takeH (i := 8) (d := (some 17)) (v := ?v18) rfl rfl (by kernel_rfl) (by kernel_rfl) (by kernel_rfl) (fun _ _ _ h => h) (by rfl) ?hy18 (by assumption) ?_
      case hy18 => ((intro w hSw; (try dsimp only at hSw); (try go_split_ands); go_simp); try with_reducible rfl)
      simp only [Act.put, List.setIfInBounds_toArray, List.set_cons_zero, List.set_cons_succ]
      refine wpAnyH_done (by kernel_rfl) ?_ _
      obtain ⟨U8, c8⟩ := hHeld
      have f8 := cellB c8
      go_wp2_with fail
      refine (HYY.out _ U8 (by omega)).mono ?_
      rintro e w9 ⟨rfl, u9⟩
      have U9 := U8.trans u9
      have c9 := u9.blk c8
      have f9 := cellB c9
      clear u9 U8 c8 f8
      go_wp2_with fail
      obtain ⟨S, KS⟩ := HSS.out _ U9 (by omega)
      refine KS.mono ?_
      rintro e w10 ⟨rfl, u10⟩
      have U10 := U9.trans u10
      have c10 := u10.blk c9
      clear u10 U9 c9 f9 KS HSS
      go_wp2_with fail
      obtain ⟨W1, hW1⟩ : ∃ W1, w10.alloc (.cells #[.int .i64 y, .int .i64 (h - 1), .int .i64 (m - 1), .int .i64 S] 27) = W1 := ⟨_, rfl⟩
      have U11 : Up w W1 := by rw [← hW1]; exact U10.alloc _
      have c11 : mblk W1 w.heap.size = some (.cells #[.int .i64 h, .int .i64 m, .int .i64 s, .int .i64 (k : Int), .slice a n c] 24 (0, 0)) := by rw [← hW1]; exact blk_keep _ c10
      have r11 : mblk W1 w10.heap.size = some (.cells #[.int .i64 y, .int .i64 (h - 1), .int .i64 (m - 1), .int .i64 S] 27) := by rw [← hW1]; exact blk_new _ _ _ rfl
      rw [hW1]
      obtain ⟨p, hp⟩ : ∃ p, w10.heap.size = p := ⟨_, rfl⟩
      rw [hp] at r11 ⊢
      clear hW1 hp U10 c10
      refine wp_region_held_drew (S := fun w' => Up w w' ∧ mblk w' w.heap.size = some (.cells #[.int .i64 h, .int .i64 m, .int .i64 s, .int .i64 (k : Int), .slice a n c] 24 (0, 0)) ∧ mblk w' p = some (.cells #[.int .i64 y, .int .i64 (h - 1), .int .i64 (m - 1), .int .i64 S] 27 (0, 0))) (by kernel_rfl) ⟨U11.drew, by rw [blk_drew]; exact c11, by rw [blk_drew]; exact r11⟩ (fun hHeld => ?_)
      clear U11 c11 r11
      refine takeH (i := 0) (d := (some 151)) (v := ?v19) rfl rfl (by kernel_rfl) (by kernel_rfl) (by kernel_rfl) (fun _ _ _ h => h) (by rfl) ?hy19 (by assumption) ?_
      case hy19 => ((intro w hSw; (try dsimp only at hSw); (try go_split_ands); go_simp); try with_reducible rfl)
      simp only [Act.put, List.setIfInBounds_toArray, List.set_cons_zero, List.set_cons_succ]
      refine takeH (i := 1) (d := (some 152)) (v := ?v20) rfl rfl (by kernel_rfl) (by kernel_rfl) (by kernel_rfl) (fun _ _ _ h => h) (by rfl) ?hy20 (by assumption) ?_
      case hy20 => ((intro w hSw; (try dsimp only at hSw); (try go_split_ands); go_simp); try with_reducible rfl)
      simp only [Act.put, List.setIfInBounds_toArray, List.set_cons_zero, List.set_cons_succ]
      refine takeH (i := 2) (d := (some 153)) (v := ?v21) rfl rfl (by kernel_rfl) (by kernel_rfl) (by kernel_rfl) (fun _ _ _ h => h) (by rfl) ?hy21 (by assumption) ?_
      case hy21 => ((intro w hSw; (try dsimp only at hSw); (try go_split_ands); go_simp); try with_reducible rfl)
      simp only [Act.put, List.setIfInBounds_toArray, List.set_cons_zero, List.set_cons_succ]
      refine wpAnyH_ready (rs := [3]) (by kernel_rfl) (by simp) ?_
      refine AllReadyH.cons rfl (fun K hK => ?_) AllReadyH.nil
      go_simp
      refine (l_at_any _ _ _ _ _).mono ?_
      rintro e w12 ⟨rfl, u12⟩
      go_wp2_with fail
      refine hK.out _ _ ⟨hHeld.1.trans u12, u12.blk hHeld.2.1, u12.blk hHeld.2.2⟩ (fun hHeld => ?_)
      clear hK K u12
      by_cases hy1 : y + 1 < k
      · have t5 : ((y : Int) + 1 < k) := by omega
        refine wpAnyH_ready (rs := [4]) (by kernel_rfl) (by simp) ?_
        refine AllReadyH.cons rfl (fun K hK => ?_) AllReadyH.nil
        go_simp
        refine (HGG.out _ hHeld.1 (by omega)).mono ?_
        rintro e w13 ⟨rfl, u13⟩
        go_wp2_with fail
        refine hK.out _ _ ⟨hHeld.1.trans u13, u13.blk hHeld.2.1, u13.blk hHeld.2.2⟩ (fun hHeld => ?_)
        clear hK K u13
        refine takeH (i := 5) (d := (some 150)) (v := ?v24) rfl rfl (by kernel_rfl) (by kernel_rfl) (by kernel_rfl) (fun _ _ _ h => h) (by rfl) ?hy24 (by assumption) ?_
        case hy24 => ((intro w hSw; (try dsimp only at hSw); (try go_split_ands); go_simp); try with_reducible rfl)
        simp only [Act.put, List.setIfInBounds_toArray, List.set_cons_zero, List.set_cons_succ]
        refine takeH (i := 6) (d := (some 156)) (v := ?v25) rfl rfl (by kernel_rfl) (by kernel_rfl) (by kernel_rfl) (fun _ _ _ h => h) (by rfl) ?hy25 (by assumption) ?_
        case hy25 => ((intro w hSw; (try dsimp only at hSw); (try go_split_ands); go_simp); try with_reducible rfl)
        simp only [Act.put, List.setIfInBounds_toArray, List.set_cons_zero, List.set_cons_succ]
        refine takeH (i := 7) (d := (some 157)) (v := ?v26) rfl rfl (by kernel_rfl) (by kernel_rfl) (by kernel_rfl) (fun _ _ _ h => h) (by rfl) ?hy26 (by assumption) ?_
        case hy26 => ((intro w hSw; (try dsimp only at hSw); (try go_split_ands); go_simp); try with_reducible rfl)
        simp only [Act.put, List.setIfInBounds_toArray, List.set_cons_zero, List.set_cons_succ]
        refine takeH (i := 8) (d := (some 22)) (v := ?v27) rfl rfl (by kernel_rfl) (by kernel_rfl) (by kernel_rfl) (fun _ _ _ h => h) (by rfl) ?hy27 (by assumption) ?_
        case hy27 => ((intro w hSw; (try dsimp only at hSw); (try go_split_ands); go_simp); try with_reducible rfl)
        simp only [Act.put, List.setIfInBounds_toArray, List.set_cons_zero, List.set_cons_succ]
        refine takeH (i := 9) (d := (some 23)) (v := ?v28) rfl rfl (by kernel_rfl) (by kernel_rfl) (by kernel_rfl) (fun _ _ _ h => h) (by rfl) ?hy28 (by assumption) ?_
        case hy28 => ((intro w hSw; (try dsimp only at hSw); (try go_split_ands); go_simp); try with_reducible rfl)
        simp only [Act.put, List.setIfInBounds_toArray, List.set_cons_zero, List.set_cons_succ]
        refine wpAnyH_done (by kernel_rfl) ?_ _
        obtain ⟨U14, c14, r14⟩ := hHeld
        have f14 := cellB c14
        have g14 := cellB r14
        clear c14 r14
        go_wp2_with fail
        refine (l_works_any _).mono ?_
        rintro e w15 ⟨rfl, u15⟩
        go_wp2
        go_ret
        exact ⟨rfl, U14.trans u15⟩
      · have t5 : ¬ ((y : Int) + 1 < k) := by omega
        have e5 : (y : Int) + 1 = k := by omega
        refine wpAnyH_ready (rs := [4]) (by kernel_rfl) (by simp) ?_
        refine AllReadyH.cons rfl (fun K hK => ?_) AllReadyH.nil
        go_simp
        refine (HEnd.out _ hHeld.1).mono ?_
        rintro e w13 ⟨rfl, u13⟩
        go_wp2_with fail
        refine hK.out _ _ ⟨hHeld.1.trans u13, u13.blk hHeld.2.1, u13.blk hHeld.2.2⟩ (fun hHeld => ?_)
        clear hK K u13
        refine takeH (i := 5) (d := (some 150)) (v := ?v30) rfl rfl (by kernel_rfl) (by kernel_rfl) (by kernel_rfl) (fun _ _ _ h => h) (by rfl) ?hy30 (by assumption) ?_
        case hy30 => ((intro w hSw; (try dsimp only at hSw); (try go_split_ands); go_simp); try with_reducible rfl)
        simp only [Act.put, List.setIfInBounds_toArray, List.set_cons_zero, List.set_cons_succ]
        refine takeH (i := 6) (d := (some 156)) (v := ?v31) rfl rfl (by kernel_rfl) (by kernel_rfl) (by kernel_rfl) (fun _ _ _ h => h) (by rfl) ?hy31 (by assumption) ?_
        case hy31 => ((intro w hSw; (try dsimp only at hSw); (try go_split_ands); go_simp); try with_reducible rfl)
        simp only [Act.put, List.setIfInBounds_toArray, List.set_cons_zero, List.set_cons_succ]
        refine takeH (i := 7) (d := (some 157)) (v := ?v32) rfl rfl (by kernel_rfl) (by kernel_rfl) (by kernel_rfl) (fun _ _ _ h => h) (by rfl) ?hy32 (by assumption) ?_
        case hy32 => ((intro w hSw; (try dsimp only at hSw); (try go_split_ands); go_simp); try with_reducible rfl)
        simp only [Act.put, List.setIfInBounds_toArray, List.set_cons_zero, List.set_cons_succ]
        refine takeH (i := 8) (d := (some 22)) (v := ?v33) rfl rfl (by kernel_rfl) (by kernel_rfl) (by kernel_rfl) (fun _ _ _ h => h) (by rfl) ?hy33 (by assumption) ?_
        case hy33 => ((intro w hSw; (try dsimp only at hSw); (try go_split_ands); go_simp); try with_reducible rfl)
        simp only [Act.put, List.setIfInBounds_toArray, List.set_cons_zero, List.set_cons_succ]
        refine takeH (i := 9) (d := (some 23)) (v := ?v34) rfl rfl (by kernel_rfl) (by kernel_rfl) (by kernel_rfl) (fun _ _ _ h => h) (by rfl) ?hy34 (by assumption) ?_
        case hy34 => ((intro w hSw; (try dsimp only at hSw); (try go_split_ands); go_simp); try with_reducible rfl)
        simp only [Act.put, List.setIfInBounds_toArray, List.set_cons_zero, List.set_cons_succ]
        refine wpAnyH_done (by kernel_rfl) ?_ _
        obtain ⟨U14, c14, r14⟩ := hHeld
        have f14 := cellB c14
        have g14 := cellB r14
        clear c14 r14
        go_wp2_with fail
        refine (l_works_any _).mono ?_
        rintro e w15 ⟨rfl, u15⟩
        go_wp2
        go_ret
        exact ⟨rfl, U14.trans u15⟩

end Go.Proofs.Ytnaibklajocejaa
