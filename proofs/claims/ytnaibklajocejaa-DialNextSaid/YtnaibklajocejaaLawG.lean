import Derived.Test.YtnaibklajocejaaLawF
/- The contracts of Ahead and later. -/
namespace Go.Proofs.Ytnaibklajocejaa
open Go.RowKit

/-- does a list come before another one? -/
def D.ahd : List Int → List Int → Bool
  | a :: l, b :: m => if a = b then D.ahd l m else decide (a < b)
  | [], _ :: _ => true
  | _, [] => false
theorem D.ahd_is (xs ys : List Int) : D.ahd xs ys = if D.first xs ys < xs.length ∧ D.first xs ys < ys.length then decide (xs.getD (D.first xs ys) 0 < ys.getD (D.first xs ys) 0) else decide (xs.length < ys.length) := by
  induction xs generalizing ys with
  | nil => cases ys <;> simp [D.ahd, D.first]
  | cons a l ih => cases ys with
    | nil => simp [D.ahd, D.first]
    | cons b m =>
      by_cases e : a = b
      · rw [D.ahd, if_pos e, ih, D.first, if_pos e]
        simp only [List.length_cons, List.getD_cons_succ, Nat.add_lt_add_iff_right]
      · rw [D.ahd, if_neg e, D.first, if_neg e]
        simp

set_option maxRecDepth 100000 in
set_option maxHeartbeats 2000000 in
theorem l_Ahead_any {xs ys : List Int} {va vb : Value} {w : World} (SA : D.Sl w va xs) (SB : D.Sl w vb ys) :
    Calls Try.prog 77 #[va, vb] w fun e w' => e = .returned (.bool (D.ahd xs ys)) ∧ Up w w' := by
  have K := l_First_any SA SB
  have E := D.ahd_is xs ys
  obtain ⟨a, c, rfl, lx, ma⟩ := SA
  obtain ⟨a', c', rfl, ly, mb⟩ := SB
  rw [E]
  have HA := Lib.hid ma
  have HB := Lib.hid mb
  clear E ma mb
  by_cases h1 : D.first xs ys < xs.length
  · by_cases h2 : D.first xs ys < ys.length
    · rw [if_pos ⟨h1, h2⟩]
      obtain ⟨g, rfl, g1, gc⟩ := HA.out (by omega)
      obtain ⟨g', rfl, g1', gc'⟩ := HB.out (by omega)
      have c1 := gc _ h1
      have c2 := gc' _ h2
      clear gc gc' HA HB
      generalize D.first xs ys = f at *
      generalize xs.getD f 0 = p at *
      generalize ys.getD f 0 = q at *
      generalize xs.length = nx at *
      generalize ys.length = ny at *
      have HK := Lib.hid K
      clear K
      go_enter Try.func77, Try.ntmps77
      go_wp2_with fail
      refine HK.out.mono ?_
      rintro e w1 ⟨rfl, u1⟩
      have d1 := (u1.facts.1 g f g1).trans c1
      have d2 := (u1.facts.1 g' f g1').trans c2
      clear c1 c2 HK
      go_wp2_with fail
      refine wp_region_held_drew (S := fun w' => Up w w' ∧ w'.cell? ⟨g, f, none⟩ = some (.int .i64 p) ∧ w'.cell? ⟨g', f, none⟩ = some (.int .i64 q)) (by kernel_rfl) ⟨u1.drew, d1, d2⟩ (fun hHeld => ?_)
      refine takeH (i := 0) (d := (some 19)) (v := ?v1) rfl rfl (by kernel_rfl) (by kernel_rfl) (by kernel_rfl) (fun _ _ _ h => h) (by rfl) ?hy1 (by assumption) ?_
      case hy1 => ((intro w hSw; (try dsimp only at hSw); (try go_split_ands); go_simp); try with_reducible rfl)
      simp only [Act.put, List.setIfInBounds_toArray, List.set_cons_zero, List.set_cons_succ]
      refine takeH (i := 1) (d := (some 20)) (v := ?v2) rfl rfl (by kernel_rfl) (by kernel_rfl) (by kernel_rfl) (fun _ _ _ h => h) (by rfl) ?hy2 (by assumption) ?_
      case hy2 => ((intro w hSw; (try dsimp only at hSw); (try go_split_ands); go_simp); try with_reducible rfl)
      simp only [Act.put, List.setIfInBounds_toArray, List.set_cons_zero, List.set_cons_succ]
      refine takeH (i := 2) (d := (some 21)) (v := ?v3) rfl rfl (by kernel_rfl) (by kernel_rfl) (by kernel_rfl) (fun _ _ _ h => h) (by rfl) ?hy3 (by assumption) ?_
      case hy3 => ((intro w hSw; (try dsimp only at hSw); (try go_split_ands); go_simp); try with_reducible rfl)
      simp only [Act.put, List.setIfInBounds_toArray, List.set_cons_zero, List.set_cons_succ]
      refine takeH (i := 3) (d := (some 22)) (v := ?v4) rfl rfl (by kernel_rfl) (by kernel_rfl) (by kernel_rfl) (fun _ _ _ h => h) (by rfl) ?hy4 (by assumption) ?_
      case hy4 => ((intro w hSw; (try dsimp only at hSw); (try go_split_ands); go_simp); try with_reducible rfl)
      simp only [Act.put, List.setIfInBounds_toArray, List.set_cons_zero, List.set_cons_succ]
      refine takeH (i := 4) (d := (some 23)) (v := ?v5) rfl rfl (by kernel_rfl) (by kernel_rfl) (by kernel_rfl) (fun _ _ _ h => h) (by rfl) ?hy5 (by assumption) ?_
      case hy5 => ((intro w hSw; (try dsimp only at hSw); (try go_split_ands); go_simp); try with_reducible rfl)
      simp only [Act.put, List.setIfInBounds_toArray, List.set_cons_zero, List.set_cons_succ]
      refine takeH (i := 5) (d := (some 24)) (v := ?v6) rfl rfl (by kernel_rfl) (by kernel_rfl) (by kernel_rfl) (fun _ _ _ h => h) (by rfl) ?hy6 (by assumption) ?_
      case hy6 => ((intro w hSw; (try dsimp only at hSw); (try go_split_ands); go_simp); try with_reducible rfl)
      simp only [Act.put, List.setIfInBounds_toArray, List.set_cons_zero, List.set_cons_succ]
      refine takeH (i := 6) (d := (some 25)) (v := ?v7) rfl rfl (by kernel_rfl) (by kernel_rfl) (by kernel_rfl) (fun _ _ _ h => h) (by rfl) ?hy7 (by assumption) ?_
      case hy7 => ((intro w hSw; (try dsimp only at hSw); (try go_split_ands); go_simp); try with_reducible rfl)
      simp only [Act.put, List.setIfInBounds_toArray, List.set_cons_zero, List.set_cons_succ]
      refine takeH (i := 7) (d := (some 26)) (v := ?v8) rfl rfl (by kernel_rfl) (by kernel_rfl) (by kernel_rfl) (fun _ _ _ h => h) (by rfl) ?hy8 (by assumption) ?_
      case hy8 => ((intro w hSw; (try dsimp only at hSw); (try go_split_ands); go_simp); try with_reducible rfl)
      simp only [Act.put, List.setIfInBounds_toArray, List.set_cons_zero, List.set_cons_succ]
      refine takeH (i := 8) (d := (some 27)) (v := ?v9) rfl rfl (by kernel_rfl) (by kernel_rfl) (by kernel_rfl) (fun _ _ _ h => h) (by rfl) ?hy9 (by assumption) ?_
      case hy9 => ((intro w hSw; (try dsimp only at hSw); (try go_split_ands); go_simp); try with_reducible rfl)
      simp only [Act.put, List.setIfInBounds_toArray, List.set_cons_zero, List.set_cons_succ]
      refine takeH (i := 9) (d := (some 4)) (v := ?v9) rfl rfl (by kernel_rfl) (by kernel_rfl) (by kernel_rfl) (fun _ _ _ h => h) (by rfl) ?hy9 (by assumption) ?_
      case hy9 => ((intro w hSw; (try dsimp only at hSw); (try go_split_ands); go_simp); try with_reducible rfl)
      simp only [Act.put, List.setIfInBounds_toArray, List.set_cons_zero, List.set_cons_succ]
      refine wpAnyH_done (by kernel_rfl) ?_ _
      go_wp2
      go_ret
      exact ⟨rfl, hHeld.1⟩
    · rw [if_neg (by omega)]
      generalize D.first xs ys = f at *
      generalize xs.length = nx at *
      generalize ys.length = ny at *
      have HK := Lib.hid K
      clear K HA HB
      go_enter Try.func77, Try.ntmps77
      go_wp2_with fail
      refine HK.out.mono ?_
      rintro e w1 ⟨rfl, u1⟩
      go_wp2
      go_ret
      exact ⟨by simp, u1⟩
  · rw [if_neg (by omega)]
    generalize D.first xs ys = f at *
    generalize xs.length = nx at *
    generalize ys.length = ny at *
    have HK := Lib.hid K
    clear K HA HB
    go_enter Try.func77, Try.ntmps77
    go_wp2_with fail
    refine HK.out.mono ?_
    rintro e w1 ⟨rfl, u1⟩
    go_wp2
    go_ret
    exact ⟨by simp, u1⟩

theorem D.sl4 (w : World) (a b c d : Int) (g : Nat) (h : mblk w g = some (.cells #[.int .i64 a, .int .i64 b, .int .i64 c, .int .i64 d] 3)) : D.Sl w (.slice (some ⟨g, 0, none⟩) 4 4) [a, b, c, d] := by
  refine ⟨_, _, rfl, by simp, fun _ => ⟨_, rfl, blk_lt h, fun j hj => ?_⟩⟩
  rw [cellB h j]
  have : j = 0 ∨ j = 1 ∨ j = 2 ∨ j = 3 := by simp at hj; omega
  rcases this with rfl | rfl | rfl | rfl <;> rfl

set_option maxRecDepth 100000 in
set_option maxHeartbeats 2000000 in
theorem l_later_any (a0 a1 a2 a3 b0 b1 b2 b3 : Int) (w : World) :
    Calls Try.prog 42 #[rd a0 a1 a2 a3, rd b0 b1 b2 b3] w fun e w' => e = .returned (.bool (D.ahd [b0, b1, b2, b3] [a0, a1, a2, a3])) ∧ Up w w' := by
  go_enter Try.func42, Try.ntmps42
  go_wp2_with fail
  refine (l_Ahead_any (D.sl4 _ _ _ _ _ _ (blk_keep _ (blk_new _ _ _ (by simp)))) (D.sl4 _ _ _ _ _ _ (blk_new _ _ _ (by simp)))).mono ?_
  rintro e w1 ⟨rfl, u1⟩
  go_wp2
  go_ret
  exact ⟨rfl, (((((Up.refl w).alloc _).alloc _).alloc _).alloc _).trans u1⟩

end Go.Proofs.Ytnaibklajocejaa
