import Derived.Test.YtnkeofobhlafkaaLawB
import Derived.Test.YtnkeofobhlafkaaNextA
/- The contracts of the laws' helpers: Lies, Rest, sound, ticksOf. -/
namespace Go.Proofs.Ytnkeofobhlafkaa
open Go.RowKit

theorem cell_CAL {w : World} {b : Nat} {cs : Array Value} (h : mblk w b = some (.cells cs 24 (0, 0))) (j : Nat) : w.cell? ⟨b, j, none⟩ = cs[j]? := cellB h j
attribute [local go_sem] cell_CAL

theorem l_Lies_any (n l h : Int) (w : World) : Calls Try.prog 44 #[.int .i64 n, .int .i64 l, .int .i64 h] w fun e w' => e = .returned (.bool (inB n l h)) ∧ w = w' := by
  by_cases h1 : l ≤ n
  · by_cases h2 : n ≤ h
    · go_enter Try.func44, Try.ntmps44
      go_wp2
      go_ret
      exact ⟨by rw [inB_yes h1 h2]; rfl, rfl⟩
    · go_enter Try.func44, Try.ntmps44
      go_wp2
      go_ret
      exact ⟨by rw [inB_no (by omega)]; rfl, rfl⟩
  · go_enter Try.func44, Try.ntmps44
    go_wp2
    go_ret
    exact ⟨by rw [inB_no (by omega)]; rfl, rfl⟩

theorem tmod_neg (n k : Int) (hk : 1 ≤ k) (h : n.tmod k < 0) : n.tmod k + k = n % k := by
  have a := tdiv_floor n k hk h
  have e := Int.mul_tdiv_add_tmod n k
  have f := Int.emod_add_mul_ediv n k
  rw [← a, Int.mul_sub] at f
  omega
theorem tmod_pos (n k : Int) (hk : 1 ≤ k) (h : 0 ≤ n.tmod k) : n.tmod k = n % k := by
  have a := tdiv_pos n k hk h
  have e := Int.mul_tdiv_add_tmod n k
  have f := Int.emod_add_mul_ediv n k
  rw [← a] at f
  omega
theorem l_Rest_any (n k : Int) (w : World) (hk : 1 ≤ k) (hk2 : k ≤ 4611686018427387904) : Calls Try.prog 42 #[.int .i64 n, .int .i64 k] w fun e w' => e = .returned (.int .i64 (n % k)) ∧ w = w' := by
  have hi : n.tmod k < k := Int.tmod_lt_of_pos n (by omega)
  have lo : -k < n.tmod k := by
    have a := Int.tmod_lt_of_pos (-n) (b := k) (by omega)
    rw [Int.neg_tmod] at a
    omega
  by_cases h : n.tmod k < 0
  · have H := Lib.hid (tmod_neg n k hk h)
    go_enter Try.func42, Try.ntmps42
    go_wp2
    go_ret
    exact ⟨ret_int H.out, rfl⟩
  · have H := Lib.hid (tmod_pos n k hk (by omega))
    go_enter Try.func42, Try.ntmps42
    go_wp2
    go_ret
    exact ⟨ret_int H.out, rfl⟩

set_option maxRecDepth 100000 in
set_option maxHeartbeats 4000000 in
theorem l_sound_any {h m s d : Int} {a : Option Addr} {n c : Nat} {L : List (Int × Bool)} {w : World} (A : CalArg w a n c L) :
    Calls Try.prog 40 #[.agg #[.int .i64 h, .int .i64 m, .int .i64 s, .int .i64 d, .slice a n c]] w fun e w' => e = .returned (.bool (D.valid h m s d L)) ∧ Up w w' := by
  have U0 := (Up.refl w).alloc (.cells #[.int .i64 h, .int .i64 m, .int .i64 s, .int .i64 d, .slice a n c] 24)
  cases hv : D.valid h m s d L
  · have K := Lib.hid (Check_no (A.up U0) hv)
    clear A hv U0
    go_enter Try.func40, Try.ntmps40
    go_wp2_with fail
    refine K.out.mono ?_
    rintro e w1 ⟨rfl, u1⟩
    have U1 := ((Up.refl w).alloc _).trans u1
    clear u1
    go_wp2
    go_loopw [3] (fun o wr => o = .bool false ∧ Up w wr) (fun _ _ => 0)
    case atStart => exact ⟨rfl, U1⟩
    case round =>
      obtain ⟨rfl, U⟩ := hrel
      go_wp2
      go_ret
      exact ⟨rfl, U⟩
  · have K := Lib.hid (Check_yes (A.up U0) hv)
    obtain ⟨h1, h2, m1, m2, s1, s2, d1, d2⟩ := D.valid_bd hv
    have hL : n ≤ 10 ∧ ∀ k, k < n → 0 ≤ (L.getD k (0, false)).1 ∧ (L.getD k (0, false)).1 ≤ d - 1 := by
      have hl := A.len
      simp only [D.valid, Bool.and_eq_true, decide_eq_true_eq] at hv
      refine ⟨by omega, fun k hk => ?_⟩
      have := D.incr_all _ _ _ hv.2.2 k (by rw [List.length_map]; omega)
      rw [inB_iff] at this
      have e : (L.map (·.1)).getD k 0 = (L.getD k (0, false)).1 := by
        rw [List.getD_eq_getElem?_getD, List.getElem?_map, List.getD_eq_getElem?_getD, List.getElem?_eq_getElem (by omega)]
        rfl
      rw [e] at this
      exact this
    have A0 := A.up U0
    have HL := Lib.hid hL.2
    have n10 := hL.1
    have i1 := inB_yes h1 h2
    have i2 := inB_yes m1 m2
    have i3 := inB_yes s1 s2
    have i4 := inB_yes d1 d2
    have hn : ((n : Int) ≤ 10) := by omega
    clear A hv hL
    go_enter Try.func40, Try.ntmps40
    go_wp2_with fail
    refine K.out.mono ?_
    rintro e w1 ⟨rfl, u1⟩
    have k1 := u1.blk (blk_new w (.cells #[.int .i64 h, .int .i64 m, .int .i64 s, .int .i64 d, .slice a n c] 24) _ rfl)
    have c1 := cellB k1
    have A1 := A0.up u1
    have U1 := U0.trans u1
    clear u1 K A0 U0
    go_wp2_with (go_at_call 44; refine (l_Lies_any _ _ _ _).mono ?_; rintro e w' ⟨rfl, rfl⟩)
    go_loopw [3, 4] (fun o t wr => o = .bool true ∧ ∃ k : Nat, k ≤ n ∧ t = .int .i64 k ∧ mblk wr w.heap.size = some (.cells #[.int .i64 h, .int .i64 m, .int .i64 s, .int .i64 d, .slice a n c] 24) ∧ Up w1 wr) (fun _ t _ => n - (intOf t).toNat)
    case atStart => exact ⟨rfl, 0, Nat.zero_le _, rfl, k1, Up.refl _⟩
    case round =>
      obtain ⟨rfl, k, hk, rfl, k2, U⟩ := hrel
      have c2 := cellB k2
      by_cases hlt : k < n
      · obtain ⟨b, off, rfl, hD⟩ := A1.mem (by omega)
        have hl := A1.len
        have y := (hD.up U).day k (by omega)
        obtain ⟨v1, v2⟩ := HL.out k hlt
        generalize (L.getD k (0, false)).1 = v at *
        have iv := inB_yes v1 v2
        have ew : IntKind.i64.wrap (d - 1) = d - 1 := IntWalk.i64_in _ (by omega)
        clear HL A1 hD c1 k1 hl
        go_wp2_with fail
        refine wp_region_held_drew (S := fun w' => mblk w' w.heap.size = some (.cells #[.int .i64 h, .int .i64 m, .int .i64 s, .int .i64 d, .slice (some ⟨b, off, none⟩) n c] 24 (0, 0)) ∧ Up w1 w' ∧ w'.cell? ⟨b, off + k * 2, none⟩ = some (.int .i64 v)) (by kernel_rfl) ⟨by rw [blk_drew]; exact k2, U.drew, y⟩ (fun hHeld => ?_)
        clear k2 c2 U y
        refine takeH (i := 0) (d := (some 44)) (v := ?v1) rfl rfl (by kernel_rfl) (by kernel_rfl) (by kernel_rfl) (fun _ _ _ h => h) (by rfl) ?hy1 (by assumption) ?_
        case hy1 => ((intro w hSw; (try dsimp only at hSw); (try go_split_ands); go_simp); try with_reducible rfl)
        simp only [Act.put, List.setIfInBounds_toArray, List.set_cons_zero, List.set_cons_succ]
        refine takeH (i := 2) (d := (some 46)) (v := ?v2) rfl rfl (by kernel_rfl) (by kernel_rfl) (by kernel_rfl) (fun _ _ _ h => h) (by rfl) ?hy2 (by assumption) ?_
        case hy2 => ((intro w hSw; (try dsimp only at hSw); (try go_split_ands); go_simp); try with_reducible rfl)
        simp only [Act.put, List.setIfInBounds_toArray, List.set_cons_zero, List.set_cons_succ]
        refine takeH (i := 6) (d := (some 50)) (v := ?v3) rfl rfl (by kernel_rfl) (by kernel_rfl) (by kernel_rfl) (fun _ _ _ h => h) (by rfl) ?hy3 (by assumption) ?_
        case hy3 => ((intro w hSw; (try dsimp only at hSw); (try go_split_ands); go_simp); try with_reducible rfl)
        simp only [Act.put, List.setIfInBounds_toArray, List.set_cons_zero, List.set_cons_succ]
        refine takeH (i := 1) (d := (some 45)) (v := ?v4) rfl rfl (by kernel_rfl) (by kernel_rfl) (by kernel_rfl) (fun _ _ _ h => h) (by rfl) ?hy4 (by assumption) ?_
        case hy4 => ((intro w hSw; (try dsimp only at hSw); (try go_split_ands); go_simp); try with_reducible rfl)
        simp only [Act.put, List.setIfInBounds_toArray, List.set_cons_zero, List.set_cons_succ]
        refine takeH (i := 7) (d := (some 51)) (v := ?v5) rfl rfl (by kernel_rfl) (by kernel_rfl) (by kernel_rfl) (fun _ _ _ h => h) (by rfl) ?hy5 (by assumption) ?_
        case hy5 => ((intro w hSw; (try dsimp only at hSw); (try go_split_ands); go_simp); try with_reducible rfl)
        simp only [Act.put, List.setIfInBounds_toArray, List.set_cons_zero, List.set_cons_succ]
        refine takeH (i := 3) (d := (some 47)) (v := ?v6) rfl rfl (by kernel_rfl) (by kernel_rfl) (by kernel_rfl) (fun _ _ _ h => h) (by rfl) ?hy6 (by assumption) ?_
        case hy6 => ((intro w hSw; (try dsimp only at hSw); (try go_split_ands); go_simp); try with_reducible rfl)
        simp only [Act.put, List.setIfInBounds_toArray, List.set_cons_zero, List.set_cons_succ]
        refine takeH (i := 8) (d := (some 52)) (v := ?v7) rfl rfl (by kernel_rfl) (by kernel_rfl) (by kernel_rfl) (fun _ _ _ h => h) (by rfl) ?hy7 (by assumption) ?_
        case hy7 => ((intro w hSw; (try dsimp only at hSw); (try go_split_ands); go_simp); try with_reducible rfl)
        simp only [Act.put, List.setIfInBounds_toArray, List.set_cons_zero, List.set_cons_succ]
        refine takeH (i := 4) (d := (some 48)) (v := ?v8) rfl rfl (by kernel_rfl) (by kernel_rfl) (by kernel_rfl) (fun _ _ _ h => h) (by rfl) ?hy8 (by assumption) ?_
        case hy8 => ((intro w hSw; (try dsimp only at hSw); (try go_split_ands); go_simp); try with_reducible rfl)
        simp only [Act.put, List.setIfInBounds_toArray, List.set_cons_zero, List.set_cons_succ]
        refine takeH (i := 5) (d := (some 49)) (v := ?v9) rfl rfl (by kernel_rfl) (by kernel_rfl) (by kernel_rfl) (fun _ _ _ h => h) (by rfl) ?hy9 (by assumption) ?_
        case hy9 => ((intro w hSw; (try dsimp only at hSw); (try go_split_ands); go_simp); try with_reducible rfl)
        simp only [Act.put, List.setIfInBounds_toArray, List.set_cons_zero, List.set_cons_succ]
        refine wpAnyH_ready (rs := [9]) (by kernel_rfl) (by simp) ?_
        refine AllReadyH.cons rfl (fun K hK => ?_) AllReadyH.nil
        go_simp
        refine (l_Lies_any _ _ _ _).mono ?_
        rintro e w2 ⟨rfl, rfl⟩
        rw [iv]
        go_wp2_with fail
        refine hK.out _ _ ⟨hHeld.1, hHeld.2.1, hHeld.2.2⟩ (fun hHeld => ?_)
        clear hK K
        refine takeH (i := 10) (d := (some 3)) (v := ?v11) rfl rfl (by kernel_rfl) (by kernel_rfl) (by kernel_rfl) (fun _ _ _ h => h) (by rfl) ?hy11 (by assumption) ?_
        case hy11 => ((intro w hSw; (try dsimp only at hSw); (try go_split_ands); go_simp); try with_reducible rfl)
        simp only [Act.put, List.setIfInBounds_toArray, List.set_cons_zero, List.set_cons_succ]
        refine wpAnyH_done (by kernel_rfl) ?_ _
        go_wp2
        go_roundw
        case rel => exact ⟨rfl, k + 1, by omega, by go_num, hHeld.1, hHeld.2.1⟩
        case measure => simp [intOf]; omega
      · obtain rfl : k = n := by omega
        go_wp2
        go_ret
        exact ⟨rfl, U1.trans U⟩

set_option maxRecDepth 100000 in
set_option maxHeartbeats 1000000 in
theorem l_ticksOf_any {h m s d : Int} {a : Option Addr} {n c : Nat} {L : List (Int × Bool)} {w : World} (A : CalArg w a n c L) (hv : D.valid h m s d L = true) :
    Calls Try.prog 41 #[.agg #[.int .i64 h, .int .i64 m, .int .i64 s, .int .i64 d, .slice a n c]] w fun e w' => e = .returned (.tuple #[.int .i64 (D.beg h m s (D.deeds L L.length) d.toNat), .bool true]) ∧ Up w w' := by
  have U0 := (Up.refl w).alloc (.cells #[.int .i64 h, .int .i64 m, .int .i64 s, .int .i64 d, .slice a n c] 24)
  have K := Lib.hid (Total_yes (A.up U0) hv)
  obtain ⟨h1, h2, m1, m2, s1, s2, d1, d2⟩ := D.valid_bd hv
  obtain ⟨P1, P2⟩ := D.mul_bd h m h1 h2 m1 m2
  obtain ⟨Q1, Q2⟩ := D.mul_bd2 (h * m) s (by omega) P2 (by omega) s2
  have t0 := D.beg_bd h m s (D.deeds L L.length) h1 h2 m1 m2 s1 s2 d.toNat
  have t1 : D.beg h m s (D.deeds L L.length) d.toNat ≤ d * (h * m * s + 1) := by
    have : ∀ k : Nat, D.beg h m s (D.deeds L L.length) k ≤ k * (h * m * s + 1) := by
      intro k
      induction k with
      | zero => rw [D.beg_zero]; omega
      | succ k ih =>
        rw [D.beg_succ, Int.natCast_add, Int.add_mul]
        have := D.lastM_bd s (D.deeds L L.length k)
        have e : (h * m - 1) * s = h * m * s - s := by rw [Int.sub_mul]; omega
        unfold D.len
        omega
    have := this d.toNat
    rwa [Int.toNat_of_nonneg (by omega)] at this
  have t2 : d * (h * m * s + 1) ≤ 10 * 86401 := Int.mul_le_mul d2 (by omega) (by omega) (by omega)
  have e1 : IntKind.i64.wrap (h * m) = h * m := IntWalk.i64_in _ (by omega)
  have e2 : IntKind.i64.wrap (h * m * s) = h * m * s := IntWalk.i64_in _ (by omega)
  have e3 : IntKind.i64.wrap (h * m * s + 1) = h * m * s + 1 := IntWalk.i64_in _ (by omega)
  have e4 : IntKind.i64.wrap (d * (h * m * s + 1)) = d * (h * m * s + 1) := IntWalk.i64_in _ (by have := Int.mul_nonneg (show 0 ≤ d by omega) (show 0 ≤ h * m * s + 1 by omega); omega)
  have iv := inB_yes (n := D.beg h m s (D.deeds L L.length) d.toNat) (l := 1) (h := d * (h * m * s + 1)) (by omega) t1
  generalize D.beg h m s (D.deeds L L.length) d.toNat = T at *
  clear hv A
  go_enter Try.func41, Try.ntmps41
  go_wp2_with fail
  refine K.out.mono ?_
  rintro e w1 ⟨rfl, u1⟩
  have k1 := u1.blk (blk_new w (.cells #[.int .i64 h, .int .i64 m, .int .i64 s, .int .i64 d, .slice a n c] 24) _ rfl)
  have c1 := cellB k1
  have U1 := U0.trans u1
  clear u1 K U0 k1
  go_wp2_with (go_at_call 44; refine (l_Lies_any _ _ _ _).mono ?_; rintro e w' ⟨rfl, rfl⟩)
  go_ret2
  exact ⟨rfl, U1⟩

end Go.Proofs.Ytnkeofobhlafkaa

/- The contracts of Ahead and later. -/
namespace Go.Proofs.Ytnkeofobhlafkaa
open Go.RowKit

/-- does a list come before another one? -/
def D.ahd : List Int → List Int → Bool
  | a :: l, b :: m => if a = b then D.ahd l m else decide (a < b)
  | [], _ :: _ => true
  | _, [] => false
theorem D.ahd_is (xs ys : List Int) : D.ahd xs ys = if D.first xs ys < xs.length ∧ D.first xs ys < ys.length then decide (xs.getD (D.first xs ys) 0 < ys.getD (D.first xs ys) 0) else decide (xs.length < ys.length) := by
  induction xs generalizing ys with
  | nil => cases ys <;> simp [D.ahd, D.first]
  | cons a l ih => cases ys with
    | nil => simp [D.ahd, D.first]
    | cons b m =>
      by_cases e : a = b
      · rw [D.ahd, if_pos e, ih, D.first, if_pos e]
        simp only [List.length_cons, List.getD_cons_succ, Nat.add_lt_add_iff_right]
      · rw [D.ahd, if_neg e, D.first, if_neg e]
        simp

set_option maxRecDepth 100000 in
set_option maxHeartbeats 2000000 in
theorem l_Ahead_any {xs ys : List Int} {va vb : Value} {w : World} (SA : D.Sl w va xs) (SB : D.Sl w vb ys) :
    Calls Try.prog 78 #[va, vb] w fun e w' => e = .returned (.bool (D.ahd xs ys)) ∧ Up w w' := by
  have K := l_First_any SA SB
  have E := D.ahd_is xs ys
  obtain ⟨a, c, rfl, lx, ma⟩ := SA
  obtain ⟨a', c', rfl, ly, mb⟩ := SB
  rw [E]
  have HA := Lib.hid ma
  have HB := Lib.hid mb
  clear E ma mb
  by_cases h1 : D.first xs ys < xs.length
  · by_cases h2 : D.first xs ys < ys.length
    · rw [if_pos ⟨h1, h2⟩]
      obtain ⟨g, rfl, g1, gc⟩ := HA.out (by omega)
      obtain ⟨g', rfl, g1', gc'⟩ := HB.out (by omega)
      have c1 := gc _ h1
      have c2 := gc' _ h2
      clear gc gc' HA HB
      generalize D.first xs ys = f at *
      generalize xs.getD f 0 = p at *
      generalize ys.getD f 0 = q at *
      generalize xs.length = nx at *
      generalize ys.length = ny at *
      have HK := Lib.hid K
      clear K
      go_enter Try.func78, Try.ntmps78
      go_wp2_with fail
      refine HK.out.mono ?_
      rintro e w1 ⟨rfl, u1⟩
      have d1 := (u1.facts.1 g f g1).trans c1
      have d2 := (u1.facts.1 g' f g1').trans c2
      clear c1 c2 HK
      go_wp2_with fail
      refine wp_region_held_drew (S := fun w' => Up w w' ∧ w'.cell? ⟨g, f, none⟩ = some (.int .i64 p) ∧ w'.cell? ⟨g', f, none⟩ = some (.int .i64 q)) (by kernel_rfl) ⟨u1.drew, d1, d2⟩ (fun hHeld => ?_)
      refine takeH (i := 0) (d := (some 19)) (v := ?v12) rfl rfl (by kernel_rfl) (by kernel_rfl) (by kernel_rfl) (fun _ _ _ h => h) (by rfl) ?hy12 (by assumption) ?_
      case hy12 => ((intro w hSw; (try dsimp only at hSw); (try go_split_ands); go_simp); try with_reducible rfl)
      simp only [Act.put, List.setIfInBounds_toArray, List.set_cons_zero, List.set_cons_succ]
      refine takeH (i := 1) (d := (some 20)) (v := ?v13) rfl rfl (by kernel_rfl) (by kernel_rfl) (by kernel_rfl) (fun _ _ _ h => h) (by rfl) ?hy13 (by assumption) ?_
      case hy13 => ((intro w hSw; (try dsimp only at hSw); (try go_split_ands); go_simp); try with_reducible rfl)
      simp only [Act.put, List.setIfInBounds_toArray, List.set_cons_zero, List.set_cons_succ]
      refine takeH (i := 2) (d := (some 21)) (v := ?v14) rfl rfl (by kernel_rfl) (by kernel_rfl) (by kernel_rfl) (fun _ _ _ h => h) (by rfl) ?hy14 (by assumption) ?_
      case hy14 => ((intro w hSw; (try dsimp only at hSw); (try go_split_ands); go_simp); try with_reducible rfl)
      simp only [Act.put, List.setIfInBounds_toArray, List.set_cons_zero, List.set_cons_succ]
      refine takeH (i := 3) (d := (some 22)) (v := ?v15) rfl rfl (by kernel_rfl) (by kernel_rfl) (by kernel_rfl) (fun _ _ _ h => h) (by rfl) ?hy15 (by assumption) ?_
      case hy15 => ((intro w hSw; (try dsimp only at hSw); (try go_split_ands); go_simp); try with_reducible rfl)
      simp only [Act.put, List.setIfInBounds_toArray, List.set_cons_zero, List.set_cons_succ]
      refine takeH (i := 4) (d := (some 23)) (v := ?v16) rfl rfl (by kernel_rfl) (by kernel_rfl) (by kernel_rfl) (fun _ _ _ h => h) (by rfl) ?hy16 (by assumption) ?_
      case hy16 => ((intro w hSw; (try dsimp only at hSw); (try go_split_ands); go_simp); try with_reducible rfl)
      simp only [Act.put, List.setIfInBounds_toArray, List.set_cons_zero, List.set_cons_succ]
      refine takeH (i := 5) (d := (some 24)) (v := ?v17) rfl rfl (by kernel_rfl) (by kernel_rfl) (by kernel_rfl) (fun _ _ _ h => h) (by rfl) ?hy17 (by assumption) ?_
      case hy17 => ((intro w hSw; (try dsimp only at hSw); (try go_split_ands); go_simp); try with_reducible rfl)
      simp only [Act.put, List.setIfInBounds_toArray, List.set_cons_zero, List.set_cons_succ]
      refine takeH (i := 6) (d := (some 25)) (v := ?v18) rfl rfl (by kernel_rfl) (by kernel_rfl) (by kernel_rfl) (fun _ _ _ h => h) (by rfl) ?hy18 (by assumption) ?_
      case hy18 => ((intro w hSw; (try dsimp only at hSw); (try go_split_ands); go_simp); try with_reducible rfl)
      simp only [Act.put, List.setIfInBounds_toArray, List.set_cons_zero, List.set_cons_succ]
      refine takeH (i := 7) (d := (some 26)) (v := ?v19) rfl rfl (by kernel_rfl) (by kernel_rfl) (by kernel_rfl) (fun _ _ _ h => h) (by rfl) ?hy19 (by assumption) ?_
      case hy19 => ((intro w hSw; (try dsimp only at hSw); (try go_split_ands); go_simp); try with_reducible rfl)
      simp only [Act.put, List.setIfInBounds_toArray, List.set_cons_zero, List.set_cons_succ]
      refine takeH (i := 8) (d := (some 27)) (v := ?v20) rfl rfl (by kernel_rfl) (by kernel_rfl) (by kernel_rfl) (fun _ _ _ h => h) (by rfl) ?hy20 (by assumption) ?_
      case hy20 => ((intro w hSw; (try dsimp only at hSw); (try go_split_ands); go_simp); try with_reducible rfl)
      simp only [Act.put, List.setIfInBounds_toArray, List.set_cons_zero, List.set_cons_succ]
      refine takeH (i := 9) (d := (some 4)) (v := ?v9) rfl rfl (by kernel_rfl) (by kernel_rfl) (by kernel_rfl) (fun _ _ _ h => h) (by rfl) ?hy9 (by assumption) ?_
      case hy9 => ((intro w hSw; (try dsimp only at hSw); (try go_split_ands); go_simp); try with_reducible rfl)
      simp only [Act.put, List.setIfInBounds_toArray, List.set_cons_zero, List.set_cons_succ]
      refine wpAnyH_done (by kernel_rfl) ?_ _
      go_wp2
      go_ret
      exact ⟨rfl, hHeld.1⟩
    · rw [if_neg (by omega)]
      generalize D.first xs ys = f at *
      generalize xs.length = nx at *
      generalize ys.length = ny at *
      have HK := Lib.hid K
      clear K HA HB
      go_enter Try.func78, Try.ntmps78
      go_wp2_with fail
      refine HK.out.mono ?_
      rintro e w1 ⟨rfl, u1⟩
      go_wp2
      go_ret
      exact ⟨by simp, u1⟩
  · rw [if_neg (by omega)]
    generalize D.first xs ys = f at *
    generalize xs.length = nx at *
    generalize ys.length = ny at *
    have HK := Lib.hid K
    clear K HA HB
    go_enter Try.func78, Try.ntmps78
    go_wp2_with fail
    refine HK.out.mono ?_
    rintro e w1 ⟨rfl, u1⟩
    go_wp2
    go_ret
    exact ⟨by simp, u1⟩

theorem D.sl4 (w : World) (a b c d : Int) (g : Nat) (h : mblk w g = some (.cells #[.int .i64 a, .int .i64 b, .int .i64 c, .int .i64 d] 3)) : D.Sl w (.slice (some ⟨g, 0, none⟩) 4 4) [a, b, c, d] := by
  refine ⟨_, _, rfl, by simp, fun _ => ⟨_, rfl, blk_lt h, fun j hj => ?_⟩⟩
  rw [cellB h j]
  have : j = 0 ∨ j = 1 ∨ j = 2 ∨ j = 3 := by simp at hj; omega
  rcases this with rfl | rfl | rfl | rfl <;> rfl

set_option maxRecDepth 100000 in
set_option maxHeartbeats 2000000 in
theorem l_later_any (a0 a1 a2 a3 b0 b1 b2 b3 : Int) (w : World) :
    Calls Try.prog 43 #[rd a0 a1 a2 a3, rd b0 b1 b2 b3] w fun e w' => e = .returned (.bool (D.ahd [b0, b1, b2, b3] [a0, a1, a2, a3])) ∧ Up w w' := by
  go_enter Try.func43, Try.ntmps43
  go_wp2_with fail
  refine (l_Ahead_any (D.sl4 _ _ _ _ _ _ (blk_keep _ (blk_new _ _ _ (by simp)))) (D.sl4 _ _ _ _ _ _ (blk_new _ _ _ (by simp)))).mono ?_
  rintro e w1 ⟨rfl, u1⟩
  go_wp2
  go_ret
  exact ⟨rfl, (((((Up.refl w).alloc _).alloc _).alloc _).alloc _).trans u1⟩

end Go.Proofs.Ytnkeofobhlafkaa

/- The contracts of To and From. -/
namespace Go.Proofs.Ytnkeofobhlafkaa
open Go.RowKit

theorem cell_SPAN {w : World} {b : Nat} {cs : Array Value} (h : mblk w b = some (.cells cs 72 (0, 0))) (j : Nat) : w.cell? ⟨b, j, none⟩ = cs[j]? := cellB h j
attribute [local go_sem] cell_SPAN

set_option maxRecDepth 100000 in
set_option maxHeartbeats 1000000 in
theorem l_To_any (a b : Int) (w : World) :
    Calls Try.prog 47 #[.int .i64 a, .int .i64 b] w fun e w' => e = .returned (.agg #[.int .i64 a, .int .i64 b]) ∧ Up w w' := by
  have U := (Up.refl w).alloc (.cells #[.int .i64 a, .int .i64 b] 72)
  have f := cellB (blk_new w (.cells #[.int .i64 a, .int .i64 b] 72) _ rfl)
  go_enter Try.func47, Try.ntmps47
  go_wp2
  refine bodyPost_ret (v := .agg #[.int .i64 a, .int .i64 b]) (by simp [results, Try.results47, go_sem, f]) rfl ⟨rfl, U⟩

set_option maxRecDepth 100000 in
set_option maxHeartbeats 2000000 in
theorem l_From_any (a b n : Int) (w : World) (a0 : 0 ≤ a) (ab : a ≤ b) (b1 : b ≤ 1000000) :
    Calls Try.prog 46 #[.agg #[.int .i64 a, .int .i64 b], .int .i64 n] w fun e w' => e = .returned (.int .i64 (a + n % (b - a + 1))) ∧ Up w w' := by
  have U := (Up.refl w).alloc (.cells #[.int .i64 a, .int .i64 b] 72)
  by_cases e : b ≤ a
  · obtain rfl : a = b := by omega
    have e1 : a + n % (a - a + 1) = a := by
      have : a - a + 1 = 1 := by omega
      rw [this, Int.emod_one]; omega
    rw [e1]
    go_enter Try.func46, Try.ntmps46
    go_wp2
    go_ret
    exact ⟨rfl, U⟩
  · have e1 : IntKind.i64.wrap (b - a) = b - a := IntWalk.i64_in _ (by omega)
    have e2 : IntKind.i64.wrap (b - a + 1) = b - a + 1 := IntWalk.i64_in _ (by omega)
    have r0 := Int.emod_nonneg n (show b - a + 1 ≠ 0 by omega)
    have r1 := Int.emod_lt_of_pos n (show 0 < b - a + 1 by omega)
    have e3 : IntKind.i64.wrap (a + n % (b - a + 1)) = a + n % (b - a + 1) := IntWalk.i64_in _ (by omega)
    have lt1 : ¬ (b - a + 1 < 1) := by omega
    go_enter Try.func46, Try.ntmps46
    go_wp2_with fail
    refine wp_region_held_drew (S := fun w' => Up w w' ∧ mblk w' w.heap.size = some (.cells #[.int .i64 a, .int .i64 b] 72 (0, 0))) (by kernel_rfl) ⟨U.drew, by rw [blk_drew]; exact blk_new _ _ _ rfl⟩ (fun hHeld => ?_)
    refine takeH (i := 0) (d := (some 28)) (v := ?v21) rfl rfl (by kernel_rfl) (by kernel_rfl) (by kernel_rfl) (fun _ _ _ h => h) (by rfl) ?hy21 (by assumption) ?_
    case hy21 => ((intro w hSw; (try dsimp only at hSw); (try go_split_ands); go_simp); try with_reducible rfl)
    simp only [Act.put, List.setIfInBounds_toArray, List.set_cons_zero, List.set_cons_succ]
    refine takeH (i := 2) (d := (some 30)) (v := ?v22) rfl rfl (by kernel_rfl) (by kernel_rfl) (by kernel_rfl) (fun _ _ _ h => h) (by rfl) ?hy22 (by assumption) ?_
    case hy22 => ((intro w hSw; (try dsimp only at hSw); (try go_split_ands); go_simp); try with_reducible rfl)
    simp only [Act.put, List.setIfInBounds_toArray, List.set_cons_zero, List.set_cons_succ]
    refine takeH (i := 3) (d := (some 31)) (v := ?v23) rfl rfl (by kernel_rfl) (by kernel_rfl) (by kernel_rfl) (fun _ _ _ h => h) (by rfl) ?hy23 (by assumption) ?_
    case hy23 => ((intro w hSw; (try dsimp only at hSw); (try go_split_ands); go_simp); try with_reducible rfl)
    simp only [Act.put, List.setIfInBounds_toArray, List.set_cons_zero, List.set_cons_succ]
    refine takeH (i := 1) (d := (some 29)) (v := ?v24) rfl rfl (by kernel_rfl) (by kernel_rfl) (by kernel_rfl) (fun _ _ _ h => h) (by rfl) ?hy24 (by assumption) ?_
    case hy24 => ((intro w hSw; (try dsimp only at hSw); (try go_split_ands); go_simp); try with_reducible rfl)
    simp only [Act.put, List.setIfInBounds_toArray, List.set_cons_zero, List.set_cons_succ]
    refine wpAnyH_ready (rs := [4]) (by kernel_rfl) (by simp) ?_
    refine AllReadyH.cons rfl (fun K hK => ?_) AllReadyH.nil
    go_simp
    refine (l_Rest_any _ _ _ (by omega) (by omega)).mono ?_
    rintro e w2 ⟨rfl, rfl⟩
    go_wp2_with fail
    refine hK.out _ _ hHeld (fun hHeld => ?_)
    clear hK K
    refine takeH (i := 5) (d := (some 33)) (v := ?v26) rfl rfl (by kernel_rfl) (by kernel_rfl) (by kernel_rfl) (fun _ _ _ h => h) (by rfl) ?hy26 (by assumption) ?_
    case hy26 => ((intro w hSw; (try dsimp only at hSw); (try go_split_ands); go_simp); try with_reducible rfl)
    simp only [Act.put, List.setIfInBounds_toArray, List.set_cons_zero, List.set_cons_succ]
    refine takeH (i := 6) (d := (some 4)) (v := ?v27) rfl rfl (by kernel_rfl) (by kernel_rfl) (by kernel_rfl) (fun _ _ _ h => h) (by rfl) ?hy27 (by assumption) ?_
    case hy27 => ((intro w hSw; (try dsimp only at hSw); (try go_split_ands); go_simp); try with_reducible rfl)
    simp only [Act.put, List.setIfInBounds_toArray, List.set_cons_zero, List.set_cons_succ]
    refine wpAnyH_done (by kernel_rfl) ?_ _
    go_wp2
    go_ret
    exact ⟨rfl, hHeld.1⟩

end Go.Proofs.Ytnkeofobhlafkaa
