import Derived.Test.YtfmnfingliflkaaLawI
/- The contracts of the reference's seconds, length, begins and isTick, for a valid calendar. -/
namespace Go.Proofs.Ytfmnfingliflkaa
open Go.RowKit
attribute [local go_sem] cell_CAL

theorem D.deeds_once {h m s d : Int} {L : List (Int × Bool)} (hv : D.valid h m s d L = true) (k : Nat) (hk : k < L.length) (j : Nat) (e : (L.getD k (0, false)).1 = (j : Nat)) : D.deeds L k j = 0 := D.deeds_none L j k (fun i hi => by
  simp only [D.valid, Bool.and_eq_true] at hv
  have q := D.incr_lt hv.2.2 i k hi (by rw [List.length_map]; omega)
  have g : ∀ i, i < L.length → (L.map (·.1)).getD i 0 = (L.getD i (0, false)).1 := fun i hi => by
    rw [List.getD_eq_getElem?_getD, List.getElem?_map, List.getD_eq_getElem?_getD, List.getElem?_eq_getElem hi]
    rfl
  rw [g i (by omega), g k hk] at q
  omega)
theorem D.lastM_more (s x : Int) : D.lastM s x = s + D.more x := by
  unfold D.lastM D.more
  split
  · rfl
  · split <;> omega

set_option maxRecDepth 100000 in
set_option maxHeartbeats 2000000 in
theorem r_seconds_any {h m s d : Int} {a : Option Addr} {n c : Nat} {L : List (Int × Bool)} {w : World} (A : CalArg w a n c L) (hv : D.valid h m s d L = true) (j : Nat) (mn : Int) :
    Calls Try.prog 84 #[.agg #[.int .i64 h, .int .i64 m, .int .i64 s, .int .i64 d, .slice a n c], .int .i64 j, .int .i64 mn] w fun e w' => e = .returned (.int .i64 (if mn = h * m - 1 then D.lastM s (D.deeds L L.length j) else s)) ∧ Up w w' := by
  obtain ⟨h1, h2, m1, m2, s1, s2, d1, d2⟩ := D.valid_bd hv
  obtain ⟨P1, P2⟩ := D.mul_bd h m h1 h2 m1 m2
  have hl := A.len
  have HO := Lib.hid (fun k hk e => D.deeds_once hv k hk j e)
  have HA := Lib.hid (fun w' (u : Up w w') => (A.up u).mem)
  have HN := Lib.hid hl
  have e1 : IntKind.i64.wrap (h * m) = h * m := IntWalk.i64_in _ (by omega)
  have e2 : IntKind.i64.wrap (h * m - 1) = h * m - 1 := IntWalk.i64_in _ (by omega)
  have n10 : n ≤ 10 := by
    simp only [D.valid, Bool.and_eq_true, decide_eq_true_eq] at hv
    omega
  by_cases hm : mn = h * m - 1
  · rw [if_pos hm, D.lastM_more, ← hl]
    have hb : (mn == h * m - 1) = true := by simp [hm]
    have HM := Lib.hid hm
    clear A hl hv hm
    go_enter Try.func84, Try.ntmps84
    go_wp2_with fail
    go_loopw [7, 8] (fun v i wr => ∃ k : Nat, k ≤ n ∧ v = .int .i64 (s + D.more (D.deeds L k j)) ∧ i = .int .i64 k ∧ mblk wr w.heap.size = some (.cells #[.int .i64 h, .int .i64 m, .int .i64 s, .int .i64 d, .slice a n c] 24 (0, 0)) ∧ Up w wr) (fun _ i _ => n - (intOf i).toNat)
    case atStart => exact ⟨0, Nat.zero_le _, by simp [D.deeds, D.more], rfl, blk_new _ _ _ rfl, (Up.refl _).alloc _⟩
    case round =>
      obtain ⟨k, hk, rfl, rfl, ck, Uk⟩ := hrel
      have fk := cellB ck
      by_cases hlt : k < n
      · obtain ⟨b, off, rfl, hD⟩ := HA.out _ Uk (by omega)
        have y1 := hD.day k (by rw [← HN.out]; exact hlt)
        have y2 := hD.plus k (by rw [← HN.out]; exact hlt)
        have dm : D.deeds L (k + 1) j = if (j : Int) = (L.getD k (0, false)).1 then (if (L.getD k (0, false)).2 = true then 1 else 2) else D.deeds L k j := rfl
        have d0 := HO.out k (by rw [← HN.out]; exact hlt)
        generalize (L.getD k (0, false)).1 = q at *
        generalize (L.getD k (0, false)).2 = pl at *
        by_cases e : q = (j : Int)
        · subst e
          rw [d0 rfl]
          rw [if_pos rfl] at dm
          have m0 : D.more 0 = 0 := rfl
          rw [m0]
          have e5 : IntKind.i64.wrap (s + 0 - 1) = s - 1 := by rw [IntWalk.i64_in _ (by omega)]; omega
          have e6 : IntKind.i64.wrap (s - 1) = s - 1 := IntWalk.i64_in _ (by omega)
          have e7 : IntKind.i64.wrap (s - 1 + 2) = s + 1 := by rw [IntWalk.i64_in _ (by omega)]; omega
          have HD := Lib.hid dm
          cases pl
          · clear dm d0 hD
            go_wp2
            go_roundw
            case rel => exact ⟨k + 1, by omega, by rw [HD.out]; simp [D.more]; omega, by go_num, ck, Uk⟩
            case measure => simp [intOf]; omega
          · clear dm d0 hD
            go_wp2
            go_roundw
            case rel => exact ⟨k + 1, by omega, by rw [HD.out]; simp [D.more], by go_num, ck, Uk⟩
            case measure => simp [intOf]; omega
        · have ne : (q == (j : Int)) = false := by simp [e]
          rw [if_neg (fun h => e h.symm)] at dm
          have HD := Lib.hid dm
          clear dm d0 hD
          go_wp2
          go_roundw
          case rel => exact ⟨k + 1, by omega, by rw [HD.out], by go_num, ck, Uk⟩
          case measure => simp [intOf]; omega
      · obtain rfl : k = n := by omega
        clear HA HN HO
        go_wp2
        go_ret
        exact ⟨rfl, Uk⟩
  · rw [if_neg hm]
    have hb : (mn == h * m - 1) = false := by simp [hm]
    clear A hl hv hm
    go_enter Try.func84, Try.ntmps84
    go_wp2_with fail
    go_loopw [7, 8] (fun v i wr => ∃ k : Nat, k ≤ n ∧ v = .int .i64 s ∧ i = .int .i64 k ∧ mblk wr w.heap.size = some (.cells #[.int .i64 h, .int .i64 m, .int .i64 s, .int .i64 d, .slice a n c] 24 (0, 0)) ∧ Up w wr) (fun _ i _ => n - (intOf i).toNat)
    case atStart => exact ⟨0, Nat.zero_le _, rfl, rfl, blk_new _ _ _ rfl, (Up.refl _).alloc _⟩
    case round =>
      obtain ⟨k, hk, rfl, rfl, ck, Uk⟩ := hrel
      have fk := cellB ck
      by_cases hlt : k < n
      · obtain ⟨b, off, rfl, hD⟩ := HA.out _ Uk (by omega)
        have y1 := hD.day k (by rw [← HN.out]; exact hlt)
        generalize (L.getD k (0, false)).1 = q at *
        clear hD
        by_cases e : q = (j : Int)
        · subst e
          go_wp2
          go_roundw
          case rel => exact ⟨k + 1, by omega, rfl, by go_num, ck, Uk⟩
          case measure => simp [intOf]; omega
        · have ne : (q == (j : Int)) = false := by simp [e]
          go_wp2
          go_roundw
          case rel => exact ⟨k + 1, by omega, rfl, by go_num, ck, Uk⟩
          case measure => simp [intOf]; omega
      · obtain rfl : k = n := by omega
        clear HA HN HO
        go_wp2
        go_ret
        exact ⟨rfl, Uk⟩

set_option maxRecDepth 100000 in
set_option maxHeartbeats 1000000 in
theorem r_length_any {h m s d : Int} {a : Option Addr} {n c : Nat} {L : List (Int × Bool)} {w : World} (A : CalArg w a n c L) (hv : D.valid h m s d L = true) (j : Nat) :
    Calls Try.prog 58 #[.agg #[.int .i64 h, .int .i64 m, .int .i64 s, .int .i64 d, .slice a n c], .int .i64 j] w fun e w' => e = .returned (.int .i64 (D.len h m s (D.deeds L L.length j))) ∧ Up w w' := by
  obtain ⟨h1, h2, m1, m2, s1, s2, d1, d2⟩ := D.valid_bd hv
  obtain ⟨P1, P2⟩ := D.mul_bd h m h1 h2 m1 m2
  obtain ⟨Q1, Q2⟩ := D.mul_bd2 (h * m - 1) s (by omega) (by omega) (by omega) s2
  have HS := Lib.hid (fun w' (u : Up w w') => r_seconds_any (A.up u) hv j (h * m - 1))
  rw [if_pos rfl] at HS
  have e1 : IntKind.i64.wrap (h * m) = h * m := IntWalk.i64_in _ (by omega)
  have e2 : IntKind.i64.wrap (h * m - 1) = h * m - 1 := IntWalk.i64_in _ (by omega)
  have e3 : IntKind.i64.wrap ((h * m - 1) * s) = (h * m - 1) * s := IntWalk.i64_in _ (by omega)
  have lb := D.lastM_bd s (D.deeds L L.length j)
  have HE := Lib.hid (show D.len h m s (D.deeds L L.length j) = (h * m - 1) * s + D.lastM s (D.deeds L L.length j) from rfl)
  generalize D.lastM s (D.deeds L L.length j) = q at *
  generalize D.len h m s (D.deeds L L.length j) = l at *
  have e4 : IntKind.i64.wrap ((h * m - 1) * s + q) = (h * m - 1) * s + q := IntWalk.i64_in _ (by omega)
  clear A hv
  go_enter Try.func58, Try.ntmps58
  go_wp2_with fail
  refine wp_region_held_drew (S := fun w' => Up w w' ∧ mblk w' w.heap.size = some (.cells #[.int .i64 h, .int .i64 m, .int .i64 s, .int .i64 d, .slice a n c] 24 (0, 0))) (by kernel_rfl) ⟨((Up.refl w).alloc _).drew, by rw [blk_drew]; exact blk_new _ _ _ rfl⟩ (fun hHeld => ?_)
  refine takeH (i := 0) (d := (some 12)) (v := ?v1) rfl rfl (by kernel_rfl) (by kernel_rfl) (by kernel_rfl) (fun _ _ _ h => h) (by rfl) ?hy1 (by assumption) ?_
  case hy1 => ((intro w hSw; (try dsimp only at hSw); (try go_split_ands); go_simp); try with_reducible rfl)
  simp only [Act.put, List.setIfInBounds_toArray, List.set_cons_zero, List.set_cons_succ]
  refine takeH (i := 1) (d := (some 13)) (v := ?v2) rfl rfl (by kernel_rfl) (by kernel_rfl) (by kernel_rfl) (fun _ _ _ h => h) (by rfl) ?hy2 (by assumption) ?_
  case hy2 => ((intro w hSw; (try dsimp only at hSw); (try go_split_ands); go_simp); try with_reducible rfl)
  simp only [Act.put, List.setIfInBounds_toArray, List.set_cons_zero, List.set_cons_succ]
  refine takeH (i := 2) (d := (some 14)) (v := ?v3) rfl rfl (by kernel_rfl) (by kernel_rfl) (by kernel_rfl) (fun _ _ _ h => h) (by rfl) ?hy3 (by assumption) ?_
  case hy3 => ((intro w hSw; (try dsimp only at hSw); (try go_split_ands); go_simp); try with_reducible rfl)
  simp only [Act.put, List.setIfInBounds_toArray, List.set_cons_zero, List.set_cons_succ]
  refine takeH (i := 3) (d := (some 15)) (v := ?v4) rfl rfl (by kernel_rfl) (by kernel_rfl) (by kernel_rfl) (fun _ _ _ h => h) (by rfl) ?hy4 (by assumption) ?_
  case hy4 => ((intro w hSw; (try dsimp only at hSw); (try go_split_ands); go_simp); try with_reducible rfl)
  simp only [Act.put, List.setIfInBounds_toArray, List.set_cons_zero, List.set_cons_succ]
  refine takeH (i := 4) (d := (some 16)) (v := ?v5) rfl rfl (by kernel_rfl) (by kernel_rfl) (by kernel_rfl) (fun _ _ _ h => h) (by rfl) ?hy5 (by assumption) ?_
  case hy5 => ((intro w hSw; (try dsimp only at hSw); (try go_split_ands); go_simp); try with_reducible rfl)
  simp only [Act.put, List.setIfInBounds_toArray, List.set_cons_zero, List.set_cons_succ]
  refine takeH (i := 5) (d := (some 17)) (v := ?v6) rfl rfl (by kernel_rfl) (by kernel_rfl) (by kernel_rfl) (fun _ _ _ h => h) (by rfl) ?hy6 (by assumption) ?_
  case hy6 => ((intro w hSw; (try dsimp only at hSw); (try go_split_ands); go_simp); try with_reducible rfl)
  simp only [Act.put, List.setIfInBounds_toArray, List.set_cons_zero, List.set_cons_succ]
  refine takeH (i := 6) (d := (some 18)) (v := ?v7) rfl rfl (by kernel_rfl) (by kernel_rfl) (by kernel_rfl) (fun _ _ _ h => h) (by rfl) ?hy7 (by assumption) ?_
  case hy7 => ((intro w hSw; (try dsimp only at hSw); (try go_split_ands); go_simp); try with_reducible rfl)
  simp only [Act.put, List.setIfInBounds_toArray, List.set_cons_zero, List.set_cons_succ]
  refine wpAnyH_ready (rs := [7]) (by kernel_rfl) (by simp) ?_
  refine AllReadyH.cons rfl (fun K hK => ?_) AllReadyH.nil
  go_simp
  refine (HS.out _ hHeld.1).mono ?_
  rintro e w6 ⟨rfl, u6⟩
  go_wp2_with fail
  refine hK.out _ _ ⟨hHeld.1.trans u6, u6.blk hHeld.2⟩ (fun hHeld => ?_)
  clear hK K u6
  refine takeH (i := 8) (d := (some 20)) (v := ?v9) rfl rfl (by kernel_rfl) (by kernel_rfl) (by kernel_rfl) (fun _ _ _ h => h) (by rfl) ?hy9 (by assumption) ?_
  case hy9 => ((intro w hSw; (try dsimp only at hSw); (try go_split_ands); go_simp); try with_reducible rfl)
  simp only [Act.put, List.setIfInBounds_toArray, List.set_cons_zero, List.set_cons_succ]
  refine takeH (i := 9) (d := (some 4)) (v := ?v10) rfl rfl (by kernel_rfl) (by kernel_rfl) (by kernel_rfl) (fun _ _ _ h => h) (by rfl) ?hy10 (by assumption) ?_
  case hy10 => ((intro w hSw; (try dsimp only at hSw); (try go_split_ands); go_simp); try with_reducible rfl)
  simp only [Act.put, List.setIfInBounds_toArray, List.set_cons_zero, List.set_cons_succ]
  refine wpAnyH_done (by kernel_rfl) ?_ _
  go_wp2
  go_ret
  exact ⟨by rw [HE.out]; rfl, hHeld.1⟩

set_option maxRecDepth 100000 in
set_option maxHeartbeats 1000000 in
theorem r_begins_any {h m s d : Int} {a : Option Addr} {n c : Nat} {L : List (Int × Bool)} {w : World} (A : CalArg w a n c L) (hv : D.valid h m s d L = true) (k : Nat) (hk : k ≤ 100) :
    Calls Try.prog 60 #[.agg #[.int .i64 h, .int .i64 m, .int .i64 s, .int .i64 d, .slice a n c], .int .i64 k] w fun e w' => e = .returned (.int .i64 (D.beg h m s (D.deeds L L.length) k)) ∧ Up w w' := by
  obtain ⟨h1, h2, m1, m2, s1, s2, d1, d2⟩ := D.valid_bd hv
  have HL := Lib.hid (fun j w' (u : Up w w') => r_length_any (A.up u) hv j)
  have tb := D.beg_bd h m s (D.deeds L L.length) h1 h2 m1 m2 s1 s2
  have bs := fun k => D.beg_succ h m s (D.deeds L L.length) k
  have lb := fun k => D.len_bd h m s (D.deeds L L.length k) h1 h2 m1 m2 s1 s2
  have b0 : D.beg h m s (D.deeds L L.length) 0 = 0 := rfl
  generalize D.beg h m s (D.deeds L L.length) = beg at *
  generalize hlen : (fun k => D.len h m s (D.deeds L L.length k)) = len at *
  have hlen' : ∀ k, D.len h m s (D.deeds L L.length k) = len k := fun k => by rw [← hlen]
  simp only [hlen'] at *
  clear A hv hlen hlen'
  go_enter Try.func60, Try.ntmps60
  go_wp2_with fail
  go_loopw [5, 6] (fun v i wr => ∃ j : Nat, j ≤ k ∧ v = .int .i64 (beg j) ∧ i = .int .i64 j ∧ mblk wr w.heap.size = some (.cells #[.int .i64 h, .int .i64 m, .int .i64 s, .int .i64 d, .slice a n c] 24 (0, 0)) ∧ Up w wr) (fun _ i _ => k - (intOf i).toNat)
  case atStart => exact ⟨0, Nat.zero_le _, by rw [b0], rfl, blk_new _ _ _ rfl, (Up.refl _).alloc _⟩
  case round =>
    obtain ⟨j, hj, rfl, rfl, cj, Uj⟩ := hrel
    have fj := cellB cj
    by_cases hlt : j < k
    · have hb := bs j
      have hlj := lb j
      have htj := tb j
      have t2 : IntKind.i64.wrap (beg j + len j) = beg j + len j := IntWalk.i64_in _ (by omega)
      have HB := Lib.hid hb
      have HLj := Lib.hid (HL.out j)
      clear bs lb tb hb HL
      go_wp2_with fail
      refine (HLj.out _ Uj).mono ?_
      rintro e w1 ⟨rfl, u1⟩
      have c1 := u1.blk cj
      go_wp2
      go_roundw
      case rel => exact ⟨j + 1, by omega, by rw [HB.out], by go_num, c1, Uj.trans u1⟩
      case measure => simp [intOf]; omega
    · obtain rfl : j = k := by omega
      clear HL bs lb tb
      go_wp2
      go_ret
      exact ⟨rfl, Uj⟩

set_option maxRecDepth 100000 in
set_option maxHeartbeats 1000000 in
theorem r_isTick_any {h m s : Int} {N : Nat} {a : Option Addr} {n c : Nat} {L : List (Int × Bool)} {w : World} (A : CalArg w a n c L) (hv : D.valid h m s N L = true) (t : Int) :
    Calls Try.prog 63 #[.agg #[.int .i64 h, .int .i64 m, .int .i64 s, .int .i64 N, .slice a n c], .int .i64 t] w fun e w' => e = .returned (.bool (inB t 0 (D.beg h m s (D.deeds L L.length) N - 1))) ∧ Up w w' := by
  obtain ⟨h1, h2, m1, m2, s1, s2, d1, d2⟩ := D.valid_bd hv
  have HB := Lib.hid (fun w' (u : Up w w') => r_begins_any (A.up u) hv N (by omega))
  have tb := D.beg_bd h m s (D.deeds L L.length) h1 h2 m1 m2 s1 s2 N
  generalize D.beg h m s (D.deeds L L.length) N = T at *
  have e1 : IntKind.i64.wrap (T - 1) = T - 1 := IntWalk.i64_in _ (by omega)
  clear A hv
  go_enter Try.func63, Try.ntmps63
  go_wp2_with fail
  refine (HB.out _ ((Up.refl w).alloc _)).mono ?_
  rintro e w1 ⟨rfl, u1⟩
  go_wp2_with fail
  refine (l_Lies_any _ _ _ _).mono ?_
  rintro e w2 ⟨rfl, rfl⟩
  go_wp2
  go_ret
  exact ⟨rfl, ((Up.refl w).alloc _).trans u1⟩

end Go.Proofs.Ytfmnfingliflkaa
