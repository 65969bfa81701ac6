import Derived.Test.YtghelfbigbdkkaaCalC
/- The contracts of dial's lengths and total. -/
namespace Go.Proofs.Ytghelfbigbdkkaa
open Go.RowKit

/-- the first days' lengths -/
def D.lens (h m s : Int) (x : Nat → Int) (k : Nat) : List Int := (List.range k).map fun j => D.len h m s (x j)
theorem D.lens_snoc (h m s : Int) (x : Nat → Int) (k : Nat) : D.lens h m s x (k + 1) = D.lens h m s x k ++ [D.len h m s (x k)] := by
  simp [D.lens, List.range_succ]
theorem D.lens_len (h m s : Int) (x : Nat → Int) (k : Nat) : (D.lens h m s x k).length = k := by simp [D.lens]

theorem Try.infoInt : (Try.prog.info? 3).map (fun i => (i.zero, i.size, i.bytes)) = some (some (.int .i64 0), 1, 8) := by kernel_rfl

theorem grown_blk {w w' : World} {row : Option Nat} {b : Nat} {o : Obj} (hg : w.grownBy w' row) (h : mblk w b = some o) (hne : some b ≠ row) : mblk w' b = some o :=
  (hg.block b (blk_lt h) hne).trans h
theorem Up.grown {w w1 w2 : World} {row : Option Nat} (h : Up w w1) (hg : w1.grownBy w2 row) (hr : ∀ k, row = some k → w.heap.size ≤ k) : Up w w2 := Below.grown h hg h.size hr

set_option maxRecDepth 100000 in
theorem lengths_any {cs : Array Value} {h m s : Int} {n : Nat} {x : Nat → Int} (C : Cal cs h m s n x) (w : World) (h1 : 1 ≤ h) (h2 : h ≤ 24) (m1 : 1 ≤ m) (m2 : m ≤ 60) (s1 : 2 ≤ s) (s2 : s ≤ 60) (d2 : n ≤ 10) :
    Calls Try.prog 41 #[.agg cs] w fun e w' => e = .returned (.slice (some ⟨w.heap.size + 1, 0, none⟩) n n) ∧ Up w w' ∧ ∀ j, j < n → w'.cell? ⟨w.heap.size + 1, j, none⟩ = some (.int .i64 ((D.lens h m s x n).getD j 0)) := by
  have hs := Lib.hid C.size
  have q3 := C.c3
  obtain ⟨i0, hi, hz0, hz1, hz2⟩ := info_parts Try.infoInt
  go_enter Try.func41, Try.ntmps41
  go_wp2_with (refine wpList_make_own _ rfl _ _ 45 rfl (w.heap.size + 1) 3 i0 _ 1 Try.underlying45 hi hz0 hz1 .i64 .i64 _ n rfl rfl rfl (by rw [hz2]; omega) (by unfold maxLen; omega) (by simp) ?_; intro w1 hown1 hgrow1; have k1 := grown_blk hgrow1 (b := w.heap.size) (blk_new _ _ _ rfl) (by simp); have U1 : Up w w1 := ((Up.refl _).alloc _).grown hgrow1 (by simp); clear hgrow1)
  go_loopw [3, 4, 12] (fun l _ i wr => ∃ k : Nat, k ≤ n ∧ i = .int .i64 k ∧ l = .slice (some ⟨w.heap.size + 1, 0, none⟩) k n ∧ wr.ownsRow (w.heap.size + 1) 3 1 (.slice (some ⟨w.heap.size + 1, 0, none⟩) k n) k ((D.lens h m s x k).map (Value.int .i64)) ∧ mblk wr w.heap.size = some (.cells cs 62) ∧ Up w wr) (fun _ _ i _ => n - (intOf i).toNat)
  case atStart => exact ⟨0, Nat.zero_le _, rfl, rfl, by rw [World.size_alloc] at hown1; exact hown1, k1, U1⟩
  case round =>
    obtain ⟨k, hk, rfl, rfl, hown, k1, U1⟩ := hrel
    by_cases hlt : k < n
    · have HL := Lib.hid (D.lens_snoc h m s x k)
      go_wp2_with fail
      refine (length_any C k _ (by omega) h1 h2 m1 m2 s1 s2).mono ?_
      rintro e w2 ⟨rfl, u2⟩
      have k2 := u2.blk k1
      have hown2 := hown.kept (w' := w2) (row := none) ⟨u2.os, u2.tape, u2.output, u2.size, fun j hj _ => u2.block j hj⟩ (.inr (by simp [Value.ownBlock]))
      have U2 := U1.trans u2
      clear u2 k1 hown U1
      go_wp2_with (at_builtin; refine wpList_append_fits _ rfl (.tmp 15) (.tmp 19) 45 rfl (w.heap.size + 1) 3 i0 1 Try.underlying45 hi hz1 (w.heap.size + 1) k n _ rfl (hown2.alloc _) ⟨w2.heap.size, 0, none⟩ 1 1 [.int .i64 (D.len h m s (x k))] rfl rfl (cell_one_new _ _ _) (by simp [Value.oneCell']) (by omega) ?_; intro w3 hown3 hgrow3)
      have k3 := grown_blk hgrow3 (blk_keep _ k2) (by simp)
      go_wp2
      go_roundw
      case rel => exact ⟨k + 1, by omega, by go_num, rfl, by rw [HL.out, List.map_append]; exact hown3, k3, (U2.alloc _).grown hgrow3 (by rintro j ⟨⟩; omega)⟩
      case measure => simp [intOf]; omega
    · obtain rfl : k = n := by omega
      go_wp2
      go_ret
      refine ⟨rfl, U1, fun j hj => ?_⟩
      rw [hown.cellAt j (by omega), List.getElem?_map, List.getD_eq_getElem?_getD, List.getElem?_eq_getElem (by rw [D.lens_len]; omega)]
      rfl

theorem total_any {cs : Array Value} {h m s : Int} {n : Nat} {x : Nat → Int} (C : Cal cs h m s n x) (w : World) (h1 : 1 ≤ h) (h2 : h ≤ 24) (m1 : 1 ≤ m) (m2 : m ≤ 60) (s1 : 2 ≤ s) (s2 : s ≤ 60) (d2 : n ≤ 10) :
    Calls Try.prog 23 #[.agg cs] w fun e w' => e = .returned (.int .i64 (wrap64 (D.tot (D.lens h m s x n)))) ∧ Up w w' := by
  have hs := Lib.hid C.size
  go_enter Try.func23, Try.ntmps23
  go_wp2_with fail
  refine (lengths_any C _ h1 h2 m1 m2 s1 s2 d2).mono ?_
  rintro e w1 ⟨rfl, u1, hc⟩
  have HC := Lib.hid hc
  clear hc
  have K := sum_any (w.heap.size + 1 + 1) 0 (D.lens h m s x n) n w1 (by rw [D.lens_len]; omega) (fun k hk => by
    have := HC.out k (by rw [D.lens_len] at hk; exact hk)
    simp only [Nat.zero_add] at this ⊢
    simpa using this)
  rw [D.lens_len] at K
  have HK := Lib.hid K
  clear K HC
  go_wp2_with fail
  refine HK.out.mono ?_
  rintro e w2 ⟨rfl, rfl⟩
  go_wp2
  go_ret
  exact ⟨rfl, ((Up.refl _).alloc _).trans u1⟩

end Go.Proofs.Ytghelfbigbdkkaa

/- The contracts of dial's hasReading and tick. -/
namespace Go.Proofs.Ytghelfbigbdkkaa
open Go.RowKit

/-- the tick with which a day begins -/
def D.beg (h m s : Int) (x : Nat → Int) (k : Nat) : Int := D.tot (D.lens h m s x k)
theorem D.beg_zero (h m s : Int) (x : Nat → Int) : D.beg h m s x 0 = 0 := rfl
theorem D.beg_succ (h m s : Int) (x : Nat → Int) (k : Nat) : D.beg h m s x (k + 1) = D.beg h m s x k + D.len h m s (x k) := by
  rw [D.beg, D.lens_snoc, D.tot_snoc]; rfl
theorem D.beg_bd (h m s : Int) (x : Nat → Int) (h1 : 1 ≤ h) (h2 : h ≤ 24) (m1 : 1 ≤ m) (m2 : m ≤ 60) (s1 : 2 ≤ s) (s2 : s ≤ 60) (k : Nat) : (k : Int) ≤ D.beg h m s x k ∧ D.beg h m s x k ≤ 86401 * k := by
  induction k with
  | zero => rw [D.beg_zero]; omega
  | succ k ih =>
    have := D.len_bd h m s (x k) h1 h2 m1 m2 s1 s2
    rw [D.beg_succ]; omega
theorem D.lens_take (h m s : Int) (x : Nat → Int) (k n : Nat) (hk : k ≤ n) : (D.lens h m s x n).take k = D.lens h m s x k := by
  unfold D.lens
  rw [← List.map_take, List.take_range, Nat.min_eq_left hk]

theorem total_beg {cs : Array Value} {h m s : Int} {n : Nat} {x : Nat → Int} (C : Cal cs h m s n x) (w : World) (h1 : 1 ≤ h) (h2 : h ≤ 24) (m1 : 1 ≤ m) (m2 : m ≤ 60) (s1 : 2 ≤ s) (s2 : s ≤ 60) (d2 : n ≤ 10) :
    Calls Try.prog 23 #[.agg cs] w fun e w' => e = .returned (.int .i64 (D.beg h m s x n)) ∧ Up w w' := by
  have b := D.beg_bd h m s x h1 h2 m1 m2 s1 s2 n
  refine (total_any C w h1 h2 m1 m2 s1 s2 d2).mono fun e w' ⟨he, hw⟩ => ⟨?_, hw⟩
  rw [he]
  refine ret_int ?_
  show wrap64 (D.beg h m s x n) = _
  unfold wrap64
  omega

theorem hasReading_any {cs : Array Value} {h m s : Int} {n : Nat} {x : Nat → Int} (C : Cal cs h m s n x) (t : Int) (w : World) (h1 : 1 ≤ h) (h2 : h ≤ 24) (m1 : 1 ≤ m) (m2 : m ≤ 60) (s1 : 2 ≤ s) (s2 : s ≤ 60) (d2 : n ≤ 10) :
    Calls Try.prog 24 #[.agg cs, .int .i64 t] w fun e w' => e = .returned (.bool (inB t 0 (D.beg h m s x n - 1))) ∧ Up w w' := by
  have hs := Lib.hid C.size
  obtain ⟨b1, b2⟩ := D.beg_bd h m s x h1 h2 m1 m2 s1 s2 n
  go_enter Try.func24, Try.ntmps24
  go_wp2_with fail
  refine (total_beg C _ h1 h2 m1 m2 s1 s2 d2).mono ?_
  rintro e w1 ⟨rfl, u1⟩
  go_wp2_with fail
  refine (within_any _ _ _ _).mono ?_
  rintro e w2 ⟨rfl, rfl⟩
  go_wp2
  go_ret
  exact ⟨rfl, ((Up.refl _).alloc _).trans u1⟩

theorem tick_no {cs : Array Value} {h m s d : Int} {x : Nat → Int} (C : Cal cs h m s d x) (a b c q : Int) (w : World) (h1 : 1 ≤ h) (h2 : h ≤ 24) (m1 : 1 ≤ m) (m2 : m ≤ 60) (s1 : 2 ≤ s) (s2 : s ≤ 60) (d1 : 1 ≤ d) (d2 : d ≤ 10)
    (hr : D.isRd h m s d x a b c q = false) :
    Calls Try.prog 26 #[.agg cs, rd a b c q] w fun e w' => e = .returned (.tuple #[.int .i64 0, .bool false]) ∧ Up w w' := by
  have hs := Lib.hid C.size
  have K := fun w => isReading_any C a b c q w h1 h2 m1 m2 s1 s2 d1 d2
  simp only [hr] at K
  have HK := Lib.hid K
  clear K hr
  go_enter Try.func26, Try.ntmps26
  go_wp2_with fail
  refine (HK.out _).mono ?_
  rintro e w1 ⟨rfl, u1⟩
  go_wp2
  go_ret2
  exact ⟨rfl, (((Up.refl _).alloc _).alloc _).trans u1⟩

theorem tick_yes {cs : Array Value} {h m s : Int} {n k : Nat} {x : Nat → Int} (C : Cal cs h m s n x) (b c q : Int) (w : World) (h1 : 1 ≤ h) (h2 : h ≤ 24) (m1 : 1 ≤ m) (m2 : m ≤ 60) (s1 : 2 ≤ s) (s2 : s ≤ 60) (d1 : 1 ≤ n) (d2 : n ≤ 10)
    (hk : k < n) (b1 : 0 ≤ b) (b2 : b ≤ 24) (c1 : 0 ≤ c) (c2 : c ≤ 60) (q1 : 0 ≤ q) (q2 : q ≤ 61) (hr : D.isRd h m s n x k b c q = true) :
    Calls Try.prog 26 #[.agg cs, rd k b c q] w fun e w' => e = .returned (.tuple #[.int .i64 (D.beg h m s x k + (b * m + c) * s + q), .bool true]) ∧ Up w w' := by
  have hs := Lib.hid C.size
  have e1 := C.c1
  have e2 := C.c2
  have K := fun w => isReading_any C k b c q w h1 h2 m1 m2 s1 s2 (by omega) (by omega)
  simp only [hr] at K
  have HK := Lib.hid K
  clear K hr
  obtain ⟨g1, g2⟩ := D.beg_bd h m s x h1 h2 m1 m2 s1 s2 k
  have g3 : 0 ≤ b * m ∧ b * m ≤ 1440 := by
    have := Int.mul_nonneg b1 (by omega : 0 ≤ m)
    have := Int.mul_le_mul b2 m2 (by omega) (by omega)
    omega
  have g4 : 0 ≤ (b * m + c) * s ∧ (b * m + c) * s ≤ 90000 := by
    have := Int.mul_nonneg (by omega : 0 ≤ b * m + c) (by omega : 0 ≤ s)
    have := Int.mul_le_mul (by omega : b * m + c ≤ 1500) s2 (by omega) (by omega)
    omega
  have k0 : (0 : Int) ≤ (k : Int) := by omega
  have k1 : (k : Int) ≤ (n : Int) := by omega
  have k2 : k ≤ n := by omega
  go_enter Try.func26, Try.ntmps26
  go_wp2_with fail
  refine (HK.out _).mono ?_
  rintro e w1 ⟨rfl, u1⟩
  have y1 := u1.blk (b := w.heap.size) (o := .cells cs 62) (by rw [blk_past _ _ _ (by simp), blk_new _ _ _ rfl])
  have y2 := u1.blk (b := w.heap.size + 1) (o := .cells #[.int .i64 k, .int .i64 b, .int .i64 c, .int .i64 q] 34) (by rw [blk_new _ _ _ (by simp)])
  have U1 := (((Up.refl w).alloc _).alloc _).trans u1
  clear u1
  go_wp2_with fail
  refine wp_region_held_drew (S := fun w' => mblk w' w.heap.size = some (.cells cs 62 (0, 0)) ∧ mblk w' (w.heap.size + 1) = some (.cells #[.int .i64 k, .int .i64 b, .int .i64 c, .int .i64 q] 34 (0, 0)) ∧ Up w w') (by kernel_rfl) ⟨by rw [blk_drew]; exact y1, by rw [blk_drew]; exact y2, U1.drew⟩ (fun hHeld => ?_)
  clear y1 y2 U1
  refine takeH (i := 0) (d := (some 11)) (v := ?v1) rfl rfl (by kernel_rfl) (by kernel_rfl) (by kernel_rfl) (fun _ _ _ h => h) (by rfl) ?hy1 (by assumption) ?_
  case hy1 => ((intro w hSw; (try dsimp only at hSw); (try go_split_ands); go_simp); try with_reducible rfl)
  simp only [Act.put, List.setIfInBounds_toArray, List.set_cons_zero, List.set_cons_succ]
  refine takeH (i := 2) (d := (some 13)) (v := ?v2) rfl rfl (by kernel_rfl) (by kernel_rfl) (by kernel_rfl) (fun _ _ _ h => h) (by rfl) ?hy2 (by assumption) ?_
  case hy2 => ((intro w hSw; (try dsimp only at hSw); (try go_split_ands); go_simp); try with_reducible rfl)
  simp only [Act.put, List.setIfInBounds_toArray, List.set_cons_zero, List.set_cons_succ]
  refine takeH (i := 3) (d := (some 14)) (v := ?v3) rfl rfl (by kernel_rfl) (by kernel_rfl) (by kernel_rfl) (fun _ _ _ h => h) (by rfl) ?hy3 (by assumption) ?_
  case hy3 => ((intro w hSw; (try dsimp only at hSw); (try go_split_ands); go_simp); try with_reducible rfl)
  simp only [Act.put, List.setIfInBounds_toArray, List.set_cons_zero, List.set_cons_succ]
  refine takeH (i := 4) (d := (some 15)) (v := ?v4) rfl rfl (by kernel_rfl) (by kernel_rfl) (by kernel_rfl) (fun _ _ _ h => h) (by rfl) ?hy4 (by assumption) ?_
  case hy4 => ((intro w hSw; (try dsimp only at hSw); (try go_split_ands); go_simp); try with_reducible rfl)
  simp only [Act.put, List.setIfInBounds_toArray, List.set_cons_zero, List.set_cons_succ]
  refine takeH (i := 5) (d := (some 16)) (v := ?v5) rfl rfl (by kernel_rfl) (by kernel_rfl) (by kernel_rfl) (fun _ _ _ h => h) (by rfl) ?hy5 (by assumption) ?_
  case hy5 => ((intro w hSw; (try dsimp only at hSw); (try go_split_ands); go_simp); try with_reducible rfl)
  simp only [Act.put, List.setIfInBounds_toArray, List.set_cons_zero, List.set_cons_succ]
  refine wpAnyH_ready (rs := [1]) (by kernel_rfl) (by simp) ?_
  refine AllReadyH.cons rfl (fun K hK => ?_) AllReadyH.nil
  go_simp
  refine (lengths_any C _ h1 h2 m1 m2 s1 s2 d2).mono ?_
  rintro e w2 ⟨rfl, u2, hc⟩
  have HC := Lib.hid hc
  clear hc
  go_wp2_with fail
  refine hK.out _ _ ⟨u2.blk hHeld.1, u2.blk hHeld.2.1, hHeld.2.2.trans u2⟩ (fun hHeld => ?_)
  clear hK K
  refine takeH (i := 6) (d := (some 17)) (v := ?v7) rfl rfl (by kernel_rfl) (by kernel_rfl) (by kernel_rfl) (fun _ _ _ h => h) (by rfl) ?hy7 (by assumption) ?_
  case hy7 => ((intro w hSw; (try dsimp only at hSw); (try go_split_ands); go_simp); try with_reducible rfl)
  simp only [Act.put, List.setIfInBounds_toArray, List.set_cons_zero, List.set_cons_succ]
  refine takeH (i := 7) (d := (some 6)) (v := ?v8) rfl rfl (by kernel_rfl) (by kernel_rfl) (by kernel_rfl) (fun _ _ _ h => h) (by rfl) ?hy8 (by assumption) ?_
  case hy8 => ((intro w hSw; (try dsimp only at hSw); (try go_split_ands); go_simp); try with_reducible rfl)
  simp only [Act.put, List.setIfInBounds_toArray, List.set_cons_zero, List.set_cons_succ]
  refine wpAnyH_done (by kernel_rfl) ?_ _
  have KS := sum_any (w1.heap.size + 1) 0 ((D.lens h m s x n).take k) k w2.drew (by rw [D.lens_take _ _ _ _ _ _ k2, D.lens_len]; omega) (fun j hj => by
    rw [D.lens_take _ _ _ _ _ _ k2, D.lens_len] at hj
    have h0 := HC.out j (by omega)
    show w2.cell? _ = _
    rw [Nat.zero_add, List.getD_eq_getElem?_getD, List.getElem?_take_of_lt hj, ← List.getD_eq_getElem?_getD]
    exact h0)
  rw [D.lens_take _ _ _ _ _ _ k2, D.lens_len] at KS
  have HS := Lib.hid KS
  have hw := Lib.hid (show wrap64 (D.tot (D.lens h m s x k)) = D.beg h m s x k by
    show wrap64 (D.beg h m s x k) = _
    unfold wrap64; omega)
  clear KS HC
  go_wp2_with fail
  refine wp_region_held_drew (S := fun w' => mblk w' w.heap.size = some (.cells cs 62 (0, 0)) ∧ mblk w' (w.heap.size + 1) = some (.cells #[.int .i64 k, .int .i64 b, .int .i64 c, .int .i64 q] 34 (0, 0)) ∧ Up w w') (by kernel_rfl) ⟨by rw [blk_drew]; exact hHeld.1, by rw [blk_drew]; exact hHeld.2.1, hHeld.2.2.drew⟩ (fun hHeld => ?_)
  refine takeH (i := 0) (d := (some 18)) (v := ?v9) rfl rfl (by kernel_rfl) (by kernel_rfl) (by kernel_rfl) (fun _ _ _ h => h) (by rfl) ?hy9 (by assumption) ?_
  case hy9 => ((intro w hSw; (try dsimp only at hSw); (try go_split_ands); go_simp); try with_reducible rfl)
  simp only [Act.put, List.setIfInBounds_toArray, List.set_cons_zero, List.set_cons_succ]
  refine takeH (i := 2) (d := (some 20)) (v := ?v10) rfl rfl (by kernel_rfl) (by kernel_rfl) (by kernel_rfl) (fun _ _ _ h => h) (by rfl) ?hy10 (by assumption) ?_
  case hy10 => ((intro w hSw; (try dsimp only at hSw); (try go_split_ands); go_simp); try with_reducible rfl)
  simp only [Act.put, List.setIfInBounds_toArray, List.set_cons_zero, List.set_cons_succ]
  refine takeH (i := 3) (d := (some 21)) (v := ?v11) rfl rfl (by kernel_rfl) (by kernel_rfl) (by kernel_rfl) (fun _ _ _ h => h) (by rfl) ?hy11 (by assumption) ?_
  case hy11 => ((intro w hSw; (try dsimp only at hSw); (try go_split_ands); go_simp); try with_reducible rfl)
  simp only [Act.put, List.setIfInBounds_toArray, List.set_cons_zero, List.set_cons_succ]
  refine takeH (i := 4) (d := (some 22)) (v := ?v12) rfl rfl (by kernel_rfl) (by kernel_rfl) (by kernel_rfl) (fun _ _ _ h => h) (by rfl) ?hy12 (by assumption) ?_
  case hy12 => ((intro w hSw; (try dsimp only at hSw); (try go_split_ands); go_simp); try with_reducible rfl)
  simp only [Act.put, List.setIfInBounds_toArray, List.set_cons_zero, List.set_cons_succ]
  refine takeH (i := 5) (d := (some 23)) (v := ?v13) rfl rfl (by kernel_rfl) (by kernel_rfl) (by kernel_rfl) (fun _ _ _ h => h) (by rfl) ?hy13 (by assumption) ?_
  case hy13 => ((intro w hSw; (try dsimp only at hSw); (try go_split_ands); go_simp); try with_reducible rfl)
  simp only [Act.put, List.setIfInBounds_toArray, List.set_cons_zero, List.set_cons_succ]
  refine takeH (i := 6) (d := (some 24)) (v := ?v14) rfl rfl (by kernel_rfl) (by kernel_rfl) (by kernel_rfl) (fun _ _ _ h => h) (by rfl) ?hy14 (by assumption) ?_
  case hy14 => ((intro w hSw; (try dsimp only at hSw); (try go_split_ands); go_simp); try with_reducible rfl)
  simp only [Act.put, List.setIfInBounds_toArray, List.set_cons_zero, List.set_cons_succ]
  refine takeH (i := 7) (d := (some 25)) (v := ?v15) rfl rfl (by kernel_rfl) (by kernel_rfl) (by kernel_rfl) (fun _ _ _ h => h) (by rfl) ?hy15 (by assumption) ?_
  case hy15 => ((intro w hSw; (try dsimp only at hSw); (try go_split_ands); go_simp); try with_reducible rfl)
  simp only [Act.put, List.setIfInBounds_toArray, List.set_cons_zero, List.set_cons_succ]
  refine takeH (i := 8) (d := (some 26)) (v := ?v16) rfl rfl (by kernel_rfl) (by kernel_rfl) (by kernel_rfl) (fun _ _ _ h => h) (by rfl) ?hy16 (by assumption) ?_
  case hy16 => ((intro w hSw; (try dsimp only at hSw); (try go_split_ands); go_simp); try with_reducible rfl)
  simp only [Act.put, List.setIfInBounds_toArray, List.set_cons_zero, List.set_cons_succ]
  refine takeH (i := 9) (d := (some 27)) (v := ?v17) rfl rfl (by kernel_rfl) (by kernel_rfl) (by kernel_rfl) (fun _ _ _ h => h) (by rfl) ?hy17 (by assumption) ?_
  case hy17 => ((intro w hSw; (try dsimp only at hSw); (try go_split_ands); go_simp); try with_reducible rfl)
  simp only [Act.put, List.setIfInBounds_toArray, List.set_cons_zero, List.set_cons_succ]
  refine takeH (i := 10) (d := (some 28)) (v := ?v18) rfl rfl (by kernel_rfl) (by kernel_rfl) (by kernel_rfl) (fun _ _ _ h => h) (by rfl) ?hy18 (by assumption) ?_
  case hy18 => ((intro w hSw; (try dsimp only at hSw); (try go_split_ands); go_simp); try with_reducible rfl)
  simp only [Act.put, List.setIfInBounds_toArray, List.set_cons_zero, List.set_cons_succ]
  refine takeH (i := 11) (d := (some 29)) (v := ?v19) rfl rfl (by kernel_rfl) (by kernel_rfl) (by kernel_rfl) (fun _ _ _ h => h) (by rfl) ?hy19 (by assumption) ?_
  case hy19 => ((intro w hSw; (try dsimp only at hSw); (try go_split_ands); go_simp); try with_reducible rfl)
  simp only [Act.put, List.setIfInBounds_toArray, List.set_cons_zero, List.set_cons_succ]
  refine takeH (i := 12) (d := (some 30)) (v := ?v20) rfl rfl (by kernel_rfl) (by kernel_rfl) (by kernel_rfl) (fun _ _ _ h => h) (by rfl) ?hy20 (by assumption) ?_
  case hy20 => ((intro w hSw; (try dsimp only at hSw); (try go_split_ands); go_simp); try with_reducible rfl)
  simp only [Act.put, List.setIfInBounds_toArray, List.set_cons_zero, List.set_cons_succ]
  refine takeH (i := 13) (d := (some 31)) (v := ?v21) rfl rfl (by kernel_rfl) (by kernel_rfl) (by kernel_rfl) (fun _ _ _ h => h) (by rfl) ?hy21 (by assumption) ?_
  case hy21 => ((intro w hSw; (try dsimp only at hSw); (try go_split_ands); go_simp); try with_reducible rfl)
  simp only [Act.put, List.setIfInBounds_toArray, List.set_cons_zero, List.set_cons_succ]
  refine takeH (i := 14) (d := (some 32)) (v := ?v22) rfl rfl (by kernel_rfl) (by kernel_rfl) (by kernel_rfl) (fun _ _ _ h => h) (by rfl) ?hy22 (by assumption) ?_
  case hy22 => ((intro w hSw; (try dsimp only at hSw); (try go_split_ands); go_simp); try with_reducible rfl)
  simp only [Act.put, List.setIfInBounds_toArray, List.set_cons_zero, List.set_cons_succ]
  refine takeH (i := 16) (d := (some 34)) (v := ?v23) rfl rfl (by kernel_rfl) (by kernel_rfl) (by kernel_rfl) (fun _ _ _ h => h) (by rfl) ?hy23 (by assumption) ?_
  case hy23 => ((intro w hSw; (try dsimp only at hSw); (try go_split_ands); go_simp); try with_reducible rfl)
  simp only [Act.put, List.setIfInBounds_toArray, List.set_cons_zero, List.set_cons_succ]
  refine takeH (i := 17) (d := (some 35)) (v := ?v24) rfl rfl (by kernel_rfl) (by kernel_rfl) (by kernel_rfl) (fun _ _ _ h => h) (by rfl) ?hy24 (by assumption) ?_
  case hy24 => ((intro w hSw; (try dsimp only at hSw); (try go_split_ands); go_simp); try with_reducible rfl)
  simp only [Act.put, List.setIfInBounds_toArray, List.set_cons_zero, List.set_cons_succ]
  refine wpAnyH_ready (rs := [1]) (by kernel_rfl) (by simp) ?_
  refine AllReadyH.cons rfl (fun K hK => ?_) AllReadyH.nil
  go_simp
  refine HS.out.mono ?_
  rintro e w3 ⟨rfl, rfl⟩
  go_wp2_with fail
  refine hK.out _ _ hHeld (fun hHeld => ?_)
  clear hK K
  refine takeH (i := 15) (d := (some 33)) (v := ?v26) rfl rfl (by kernel_rfl) (by kernel_rfl) (by kernel_rfl) (fun _ _ _ h => h) (by rfl) ?hy26 (by assumption) ?_
  case hy26 => ((intro w hSw; (try dsimp only at hSw); (try go_split_ands); go_simp); try with_reducible rfl)
  simp only [Act.put, List.setIfInBounds_toArray, List.set_cons_zero, List.set_cons_succ]
  refine takeH (i := 18) (d := (some 36)) (v := ?v27) rfl rfl (by kernel_rfl) (by kernel_rfl) (by kernel_rfl) (fun _ _ _ h => h) (by rfl) ?hy27 (by assumption) ?_
  case hy27 => ((intro w hSw; (try dsimp only at hSw); (try go_split_ands); go_simp); try with_reducible rfl)
  simp only [Act.put, List.setIfInBounds_toArray, List.set_cons_zero, List.set_cons_succ]
  refine takeH (i := 19) (d := (some 4)) (v := ?v28) rfl rfl (by kernel_rfl) (by kernel_rfl) (by kernel_rfl) (fun _ _ _ h => h) (by rfl) ?hy28 (by assumption) ?_
  case hy28 => ((intro w hSw; (try dsimp only at hSw); (try go_split_ands); go_simp); try with_reducible rfl)
  simp only [Act.put, List.setIfInBounds_toArray, List.set_cons_zero, List.set_cons_succ]
  refine takeH (i := 20) (d := (some 5)) (v := ?v29) rfl rfl (by kernel_rfl) (by kernel_rfl) (by kernel_rfl) (fun _ _ _ h => h) (by rfl) ?hy29 (by assumption) ?_
  case hy29 => ((intro w hSw; (try dsimp only at hSw); (try go_split_ands); go_simp); try with_reducible rfl)
  simp only [Act.put, List.setIfInBounds_toArray, List.set_cons_zero, List.set_cons_succ]
  refine wpAnyH_done (by kernel_rfl) ?_ _
  go_wp2
  go_ret2
  refine ⟨?_, hHeld.2.2⟩
  show Ending.returned (.tuple #[.int .i64 (IntKind.i64.wrap (IntKind.i64.wrap (wrap64 (D.tot (D.lens h m s x k)) + IntKind.i64.wrap (IntKind.i64.wrap (IntKind.i64.wrap (b * m) + c) * s)) + q)), .bool true]) = _
  rw [hw.out, IntWalk.i64_in (b * m) (by omega), IntWalk.i64_in (b * m + c) (by omega), IntWalk.i64_in ((b * m + c) * s) (by omega), IntWalk.i64_in (D.beg h m s x k + (b * m + c) * s) (by omega), IntWalk.i64_in _ (by omega)]

end Go.Proofs.Ytghelfbigbdkkaa
