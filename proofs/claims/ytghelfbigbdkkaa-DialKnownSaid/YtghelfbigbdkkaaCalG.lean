import Derived.Test.YtghelfbigbdkkaaCalE
import Derived.DeepKeys
/- The contract of dial's dayOf. -/
namespace Go.Proofs.Ytghelfbigbdkkaa
open Go.RowKit

theorem kt85 : Try.prog.keyTypeAt 3 60 = true := by kernel_rfl
theorem wf_small (x : Int) (h : 0 ≤ x ∧ x ≤ 2) : (Lit.int .i64 x).wf = true := WalkArith.wf_i64 (by omega)
theorem kl83 (x : Int) (h : 0 ≤ x ∧ x ≤ 2) : Try.prog.keyLits 2 58 [.int .i64 x] = some [.int .i64 x] := by
  simp [Program.keyLits, Try.underlying58, wf_small x h]
theorem c85 : Try.prog.cellsOf 60 = 10 := by kernel_rfl
theorem c83 : Try.prog.cellsOf 58 = 1 := by kernel_rfl
theorem kl85 (x0 x1 x2 x3 x4 x5 x6 x7 x8 x9 : Int) (h0 : 0 ≤ x0 ∧ x0 ≤ 2) (h1 : 0 ≤ x1 ∧ x1 ≤ 2) (h2 : 0 ≤ x2 ∧ x2 ≤ 2) (h3 : 0 ≤ x3 ∧ x3 ≤ 2) (h4 : 0 ≤ x4 ∧ x4 ≤ 2) (h5 : 0 ≤ x5 ∧ x5 ≤ 2) (h6 : 0 ≤ x6 ∧ x6 ≤ 2) (h7 : 0 ≤ x7 ∧ x7 ≤ 2) (h8 : 0 ≤ x8 ∧ x8 ≤ 2) (h9 : 0 ≤ x9 ∧ x9 ≤ 2) :
    Try.prog.keyLits 3 60 [.int .i64 x0, .int .i64 x1, .int .i64 x2, .int .i64 x3, .int .i64 x4, .int .i64 x5, .int .i64 x6, .int .i64 x7, .int .i64 x8, .int .i64 x9] = some [.int .i64 x0, .int .i64 x1, .int .i64 x2, .int .i64 x3, .int .i64 x4, .int .i64 x5, .int .i64 x6, .int .i64 x7, .int .i64 x8, .int .i64 x9] := by
  have e : List.range 10 = [0, 1, 2, 3, 4, 5, 6, 7, 8, 9] := by decide
  have u := Try.underlying60
  unfold Program.keyLits
  simp only [u]
  simp [c85, c83, e, kl83, h0, h1, h2, h3, h4, h5, h6, h7, h8, h9]
theorem fm85 (x0 x1 x2 x3 x4 x5 x6 x7 x8 x9 : Int) : (Value.agg #[.int .i64 x0, .int .i64 x1, .int .i64 x2, .int .i64 x3, .int .i64 x4, .int .i64 x5, .int .i64 x6, .int .i64 x7, .int .i64 x8, .int .i64 x9]).formed Try.prog 60 = true := by kernel_rfl

theorem eqDeeds (x0 x1 x2 x3 x4 x5 x6 x7 x8 x9 : Int) (h0 : 0 ≤ x0 ∧ x0 ≤ 2) (h1 : 0 ≤ x1 ∧ x1 ≤ 2) (h2 : 0 ≤ x2 ∧ x2 ≤ 2) (h3 : 0 ≤ x3 ∧ x3 ≤ 2) (h4 : 0 ≤ x4 ∧ x4 ≤ 2) (h5 : 0 ≤ x5 ∧ x5 ≤ 2) (h6 : 0 ≤ x6 ∧ x6 ≤ 2) (h7 : 0 ≤ x7 ∧ x7 ≤ 2) (h8 : 0 ≤ x8 ∧ x8 ≤ 2) (h9 : 0 ≤ x9 ∧ x9 ≤ 2) : ∃ r : Bool, (r = true ↔ x0 = 0 ∧ x1 = 0 ∧ x2 = 0 ∧ x3 = 0 ∧ x4 = 0 ∧ x5 = 0 ∧ x6 = 0 ∧ x7 = 0 ∧ x8 = 0 ∧ x9 = 0) ∧ ∀ w, (Op.equalIn 10000 60 (.agg #[.int .i64 x0, .int .i64 x1, .int .i64 x2, .int .i64 x3, .int .i64 x4, .int .i64 x5, .int .i64 x6, .int .i64 x7, .int .i64 x8, .int .i64 x9]) (.agg #[.int .i64 0, .int .i64 0, .int .i64 0, .int .i64 0, .int .i64 0, .int .i64 0, .int .i64 0, .int .i64 0, .int .i64 0, .int .i64 0])).run Try.prog w = .ok r w := by
  have h := run_equalIn_deep (P := Try.prog) 9997 3 60 kt85
  have z : (0 : Int) ≤ 0 ∧ (0 : Int) ≤ 2 := by omega
  refine ⟨decide (x0 = 0 ∧ x1 = 0 ∧ x2 = 0 ∧ x3 = 0 ∧ x4 = 0 ∧ x5 = 0 ∧ x6 = 0 ∧ x7 = 0 ∧ x8 = 0 ∧ x9 = 0), by simp, fun w => ?_⟩
  obtain ⟨r, hr, hi⟩ := h w 3 3 _ _ _ _ (fm85 x0 x1 x2 x3 x4 x5 x6 x7 x8 x9) (fm85 0 0 0 0 0 0 0 0 0 0) (kl85 x0 x1 x2 x3 x4 x5 x6 x7 x8 x9 h0 h1 h2 h3 h4 h5 h6 h7 h8 h9) (kl85 0 0 0 0 0 0 0 0 0 0 z z z z z z z z z z)
  rw [show r = decide (x0 = 0 ∧ x1 = 0 ∧ x2 = 0 ∧ x3 = 0 ∧ x4 = 0 ∧ x5 = 0 ∧ x6 = 0 ∧ x7 = 0 ∧ x8 = 0 ∧ x9 = 0) from by rw [Bool.eq_iff_iff, hi]; simp] at hr
  exact hr

theorem D.beg_mono (h m s : Int) (x : Nat → Int) (h1 : 1 ≤ h) (h2 : h ≤ 24) (m1 : 1 ≤ m) (m2 : m ≤ 60) (s1 : 2 ≤ s) (s2 : s ≤ 60) (k j : Nat) (hk : k ≤ j) : D.beg h m s x k ≤ D.beg h m s x j := by
  induction j with
  | zero => obtain rfl : k = 0 := by omega
            omega
  | succ j ih =>
    by_cases e : k = j + 1
    · subst e; omega
    · have := ih (by omega)
      have := D.len_bd h m s (x j) h1 h2 m1 m2 s1 s2
      rw [D.beg_succ]; omega

set_option maxRecDepth 10000 in
theorem dayOf1_any {cs : Array Value} {h m s : Int} {n : Nat} {x : Nat → Int} (C : Cal cs h m s n x) (t : Int) (j B F : Nat) (h1 : 1 ≤ h) (h2 : h ≤ 24) (m1 : 1 ≤ m) (m2 : m ≤ 60) (s1 : 2 ≤ s) (s2 : s ≤ 60) (d2 : n ≤ 10) (hj : j < n)
    (t0 : 0 ≤ t) (t1 : D.beg h m s x j ≤ t) (t2 : t < D.beg h m s x (j + 1)) (g : Nat) : ∀ (k : Nat) (r : Int) (w : World), k + g = j → Hid (r = t - D.beg h m s x k) →
    mblk w B = some (.cells cs 62) → mblk w F = some (.cells #[.func (.func 55) #[] #[.pointer (some ⟨B, 0, none⟩), .pointer (some ⟨F, 0, none⟩)]] 107) →
    Calls Try.prog 55 #[.int .i64 k, .int .i64 r, .pointer (some ⟨B, 0, none⟩), .pointer (some ⟨F, 0, none⟩)] w fun e w' => e = .returned (.tuple #[.int .i64 j, .int .i64 (t - D.beg h m s x j)]) ∧ Up w w' := by
  have hs := Lib.hid C.size
  induction g with
  | zero =>
    intro k r w hk hr hB hF
    obtain rfl : k = j := by omega
    have b := D.beg_succ h m s x k
    have hl : r < D.len h m s (x k) := by have := hr.out; omega
    clear b
    go_enter Try.func55, Try.ntmps55
    go_wp2_with fail
    refine (length_any C k _ (by omega) h1 h2 m1 m2 s1 s2).mono ?_
    rintro e w1 ⟨rfl, u1⟩
    go_wp2
    go_ret2
    exact ⟨by rw [hr.out]; rfl, u1⟩
  | succ g ih =>
    intro k r w hk hr hB hF
    obtain ⟨b1, b2⟩ := D.beg_bd h m s x h1 h2 m1 m2 s1 s2 k
    obtain ⟨b3, b4⟩ := D.beg_bd h m s x h1 h2 m1 m2 s1 s2 (j + 1)
    obtain ⟨l1, l2⟩ := D.len_bd h m s (x k) h1 h2 m1 m2 s1 s2
    have b := D.beg_succ h m s x k
    have mono := D.beg_mono h m s x h1 h2 m1 m2 s1 s2 (k + 1) j (by omega)
    have hl : ¬ r < D.len h m s (x k) := by have := hr.out; omega
    have hr0 : 0 ≤ r ∧ r ≤ 900000 := by have := hr.out; omega
    have hr' : Hid (r - D.len h m s (x k) = t - D.beg h m s x (k + 1)) := by unfold Hid; have := hr.out; omega
    have IH := Lib.hid ih
    clear ih b mono
    have f0 := cellB hF
    go_enter Try.func55, Try.ntmps55
    go_wp2_with fail
    refine (length_any C k _ (by omega) h1 h2 m1 m2 s1 s2).mono ?_
    rintro e w1 ⟨rfl, u1⟩
    have y1 := u1.blk hB
    have y2 := u1.blk hF
    have f1 := cellB y2
    clear hB hF f0
    go_wp2_with fail
    refine wp_region_held_drew (S := fun w' => mblk w' B = some (.cells cs 62 (0, 0)) ∧ mblk w' F = some (.cells #[.func (.func 55) #[] #[.pointer (some ⟨B, 0, none⟩), .pointer (some ⟨F, 0, none⟩)]] 107) ∧ w'.cell? ⟨F, 0, none⟩ = some (.func (.func 55) #[] #[.pointer (some ⟨B, 0, none⟩), .pointer (some ⟨F, 0, none⟩)]) ∧ Up w w') (by kernel_rfl) ⟨by rw [blk_drew]; exact y1, by rw [blk_drew]; exact y2, cellB (w := w1) y2 0, u1.drew⟩ (fun hHeld => ?_)
    clear y1 y2 f1 u1
    refine takeH (i := 0) (d := (some 15)) (v := ?v1) rfl rfl (by kernel_rfl) (by kernel_rfl) (by kernel_rfl) (fun _ _ _ h => h) (by rfl) ?hy1 (by assumption) ?_
    case hy1 => ((intro w hSw; (try dsimp only at hSw); (try go_split_ands); go_simp); try with_reducible rfl)
    simp only [Act.put, List.setIfInBounds_toArray, List.set_cons_zero, List.set_cons_succ]
    refine takeH (i := 1) (d := (some 16)) (v := ?v2) rfl rfl (by kernel_rfl) (by kernel_rfl) (by kernel_rfl) (fun _ _ _ h => h) (by rfl) ?hy2 (by assumption) ?_
    case hy2 => ((intro w hSw; (try dsimp only at hSw); (try go_split_ands); go_simp); try with_reducible rfl)
    simp only [Act.put, List.setIfInBounds_toArray, List.set_cons_zero, List.set_cons_succ]
    refine takeH (i := 2) (d := (some 17)) (v := ?v3) rfl rfl (by kernel_rfl) (by kernel_rfl) (by kernel_rfl) (fun _ _ _ h => h) (by rfl) ?hy3 (by assumption) ?_
    case hy3 => ((intro w hSw; (try dsimp only at hSw); (try go_split_ands); go_simp); try with_reducible rfl)
    simp only [Act.put, List.setIfInBounds_toArray, List.set_cons_zero, List.set_cons_succ]
    refine takeH (i := 3) (d := (some 18)) (v := ?v4) rfl rfl (by kernel_rfl) (by kernel_rfl) (by kernel_rfl) (fun _ _ _ h => h) (by rfl) ?hy4 (by assumption) ?_
    case hy4 => ((intro w hSw; (try dsimp only at hSw); (try go_split_ands); go_simp); try with_reducible rfl)
    simp only [Act.put, List.setIfInBounds_toArray, List.set_cons_zero, List.set_cons_succ]
    refine takeH (i := 4) (d := (some 19)) (v := ?v5) rfl rfl (by kernel_rfl) (by kernel_rfl) (by kernel_rfl) (fun _ _ _ h => h) (by rfl) ?hy5 (by assumption) ?_
    case hy5 => ((intro w hSw; (try dsimp only at hSw); (try go_split_ands); go_simp); try with_reducible rfl)
    simp only [Act.put, List.setIfInBounds_toArray, List.set_cons_zero, List.set_cons_succ]
    refine takeH (i := 5) (d := (some 20)) (v := ?v6) rfl rfl (by kernel_rfl) (by kernel_rfl) (by kernel_rfl) (fun _ _ _ h => h) (by rfl) ?hy6 (by assumption) ?_
    case hy6 => ((intro w hSw; (try dsimp only at hSw); (try go_split_ands); go_simp); try with_reducible rfl)
    simp only [Act.put, List.setIfInBounds_toArray, List.set_cons_zero, List.set_cons_succ]
    refine wpAnyH_ready (rs := [6]) (by kernel_rfl) (by simp) ?_
    refine AllReadyH.cons rfl (fun K hK => ?_) AllReadyH.nil
    go_simp
    refine (length_any C k _ (by omega) h1 h2 m1 m2 s1 s2).mono ?_
    rintro e w2 ⟨rfl, u2⟩
    go_wp2_with fail
    refine hK.out _ _ ⟨u2.blk hHeld.1, u2.blk hHeld.2.1, cellB (u2.blk hHeld.2.1) 0, hHeld.2.2.2.trans u2⟩ (fun hHeld => ?_)
    clear hK K
    refine takeH (i := 7) (d := (some 22)) (v := ?v8) rfl rfl (by kernel_rfl) (by kernel_rfl) (by kernel_rfl) (fun _ _ _ h => h) (by rfl) ?hy8 (by assumption) ?_
    case hy8 => ((intro w hSw; (try dsimp only at hSw); (try go_split_ands); go_simp); try with_reducible rfl)
    simp only [Act.put, List.setIfInBounds_toArray, List.set_cons_zero, List.set_cons_succ]
    refine wpAnyH_ready (rs := [8]) (by kernel_rfl) (by simp) ?_
    refine AllReadyH.cons rfl (fun K hK => ?_) AllReadyH.nil
    go_simp
    rw [IntWalk.i64_in (k + 1) (by omega), IntWalk.i64_in (r - D.len h m s (x k)) (by omega)]
    refine (IH.out (k + 1) _ _ (by omega) hr' hHeld.1 hHeld.2.1).mono ?_
    rintro e w3 ⟨rfl, u3⟩
    go_wp2_with fail
    refine hK.out _ _ ⟨u3.blk hHeld.1, u3.blk hHeld.2.1, cellB (u3.blk hHeld.2.1) 0, hHeld.2.2.2.trans u3⟩ (fun hHeld => ?_)
    clear hK K
    refine takeH (i := 9) (d := (some 24)) (v := ?v10) rfl rfl (by kernel_rfl) (by kernel_rfl) (by kernel_rfl) (fun _ _ _ h => h) (by rfl) ?hy10 (by assumption) ?_
    case hy10 => ((intro w hSw; (try dsimp only at hSw); (try go_split_ands); go_simp); try with_reducible rfl)
    simp only [Act.put, List.setIfInBounds_toArray, List.set_cons_zero, List.set_cons_succ]
    refine takeH (i := 10) (d := (some 25)) (v := ?v11) rfl rfl (by kernel_rfl) (by kernel_rfl) (by kernel_rfl) (fun _ _ _ h => h) (by rfl) ?hy11 (by assumption) ?_
    case hy11 => ((intro w hSw; (try dsimp only at hSw); (try go_split_ands); go_simp); try with_reducible rfl)
    simp only [Act.put, List.setIfInBounds_toArray, List.set_cons_zero, List.set_cons_succ]
    refine takeH (i := 11) (d := (some 6)) (v := ?v12) rfl rfl (by kernel_rfl) (by kernel_rfl) (by kernel_rfl) (fun _ _ _ h => h) (by rfl) ?hy12 (by assumption) ?_
    case hy12 => ((intro w hSw; (try dsimp only at hSw); (try go_split_ands); go_simp); try with_reducible rfl)
    simp only [Act.put, List.setIfInBounds_toArray, List.set_cons_zero, List.set_cons_succ]
    refine takeH (i := 12) (d := (some 7)) (v := ?v13) rfl rfl (by kernel_rfl) (by kernel_rfl) (by kernel_rfl) (fun _ _ _ h => h) (by rfl) ?hy13 (by assumption) ?_
    case hy13 => ((intro w hSw; (try dsimp only at hSw); (try go_split_ands); go_simp); try with_reducible rfl)
    simp only [Act.put, List.setIfInBounds_toArray, List.set_cons_zero, List.set_cons_succ]
    refine wpAnyH_done (by kernel_rfl) ?_ _
    go_wp2
    go_ret2
    exact ⟨rfl, hHeld.2.2.2⟩

end Go.Proofs.Ytghelfbigbdkkaa
