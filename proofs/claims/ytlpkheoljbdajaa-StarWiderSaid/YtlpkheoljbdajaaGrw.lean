import Derived.Test.YtlpkheoljbdajaaHst
import Derived.Test.YtlpkheoljbdajaaBsc
import Derived.Test.YtlpkheoljbdajaaHeQ
/- The contracts of the laws' grown and wideOf. -/
namespace Go.Proofs.Ytlpkheoljbdajaa
open Go.RowKit Go.Shelf
attribute [local go_sem] Oper.semAt_some

section
variable {bl bh rl rh : Int} {aP aQ aL : Option Addr} {nP cP nQ cQ nL cL : Nat} {ps qs : List (Int × Int)} {ls : List T.T5}
set_option maxRecDepth 100000 in
set_option maxHeartbeats 1000000 in
theorem l_grown_any (l h b le mo : Int) (w : World) (hl : -1000000 ≤ l ∧ l ≤ 1000000) (hh : -1000000 ≤ h ∧ h ≤ 1000000) (hb : -1000000 ≤ b ∧ b ≤ 1000000) :
    Calls Try.prog 46 #[SpV l h, .int .i64 b, .int .i64 le, .int .i64 mo] w fun e w' => e = .returned (SpV (max le (l - b)) (min mo (h + b))) ∧ Up w w' := by
  have w1 : IntKind.i64.wrap (l - b) = l - b := IntWalk.i64_in _ (by omega)
  have w2 : IntKind.i64.wrap (h + b) = h + b := IntWalk.i64_in _ (by omega)
  obtain ⟨x, hx⟩ : ∃ x, max le (l - b) = x := ⟨_, rfl⟩
  obtain ⟨y, hy⟩ : ∃ y, min mo (h + b) = y := ⟨_, rfl⟩
  have m1 := max_run (a := le) (b := l - b) hx
  have m2 := min_run (a := mo) (b := h + b) hy
  rw [hx, hy]
  clear hx hy hl hh hb
  have HT := Lib.hid (fun w => B_To_any x y w)
  go_enter Try.func46, Try.ntmps46
  obtain ⟨q0, e0⟩ : ∃ q, w.heap.size = q := ⟨_, rfl⟩
  have U := ((Up.refl w).alloc (.cells #[.int .i64 l, .int .i64 h] 23)).alloc (.cells #[.int .i64 0, .int .i64 0] 23)
  have k0 := blk_keep (.cells #[.int .i64 0, .int .i64 0] 23) (blk_new w (.cells #[.int .i64 l, .int .i64 h] 23) q0 e0.symm)
  have k1 := blk_new (w.alloc (.cells #[.int .i64 l, .int .i64 h] 23)) (.cells #[.int .i64 0, .int .i64 0] 23) (q0 + 1) (by simp [e0])
  go_wp2_with fail
  refine (HT.out _).mono ?_
  rintro e w3 ⟨rfl, u⟩
  replace U := U.trans u
  replace k1 := u.blk k1
  clear u k0 HT m1 m2
  have z1 := frozB k1
  have c1 := cellB k1
  have l1 := blk_lt k1
  have cZ : ∀ j, ((w3.setCell ⟨q0 + 1, 0, none⟩ (.int .i64 x)).setCell ⟨q0 + 1, 1, none⟩ (.int .i64 y)).cell? ⟨q0 + 1, j, none⟩ = (#[Value.int .i64 x, .int .i64 y] : Array Value)[j]? := cellB (blk_put (blk_put k1 0 _) 1 _)
  have UZ := (U.set (p := ⟨q0 + 1, 0, none⟩) (show w.heap.size ≤ q0 + 1 by omega) (.int .i64 x)).set (p := ⟨q0 + 1, 1, none⟩) (show w.heap.size ≤ q0 + 1 by omega) (.int .i64 y)
  go_wp2_with fail
  exact bodyPost_ret (v := SpV x y) (by simp [results, Try.results46, go_sem, cZ]) rfl ⟨rfl, UZ⟩
/-- what is wider -/
def T.wide (n : Int) (nP nQ nL : Nat) : Int := if n = 2 ∧ nP = 0 ∨ n = 3 ∧ nQ = 0 ∨ n = 4 ∧ nL = 0 then 0 else n
set_option maxRecDepth 100000 in
set_option maxHeartbeats 2000000 in
theorem l_wideOf_any {M n : Int} (hn : n = 0 ∨ n = 1 ∨ n = 2 ∨ n = 3 ∨ n = 4) (w : World) :
    Calls Try.prog 45 #[.int .i64 n, BoV M bl bh rl rh (.slice aP nP cP) (.slice aQ nQ cQ) (.slice aL nL cL)] w fun e w' => e = .returned (.int .i64 (T.wide n nP nQ nL)) ∧ Up w w' := by
  have U := (Up.refl w).alloc (.cells (BoC M bl bh rl rh (.slice aP nP cP) (.slice aQ nQ cQ) (.slice aL nL cL)) 27)
  have k0 := blk_new w (.cells (BoC M bl bh rl rh (.slice aP nP cP) (.slice aQ nQ cQ) (.slice aL nL cL)) 27) _ rfl
  rcases hn with rfl | rfl | rfl | rfl | rfl
  · skip
    rw [show T.wide 0 nP nQ nL = 0 from by unfold T.wide; rw [if_neg (by omega)]]
    go_enter Try.func45, Try.ntmps45
    go_wp2
    go_ret
    exact ⟨rfl, U⟩
  · skip
    rw [show T.wide 1 nP nQ nL = 1 from by unfold T.wide; rw [if_neg (by omega)]]
    go_enter Try.func45, Try.ntmps45
    go_wp2
    go_ret
    exact ⟨rfl, U⟩
  · by_cases h : nP = 0
    · have d : ((nP : Int) == 0) = true := by rw [beq_iff_eq]; omega
      rw [show T.wide 2 nP nQ nL = 0 from by unfold T.wide; rw [if_pos (by omega)]]
      clear h
      go_enter Try.func45, Try.ntmps45
      go_wp2
      go_ret
      exact ⟨rfl, U⟩
    · have d : ((nP : Int) == 0) = false := by rw [beq_eq_false_iff_ne]; omega
      rw [show T.wide 2 nP nQ nL = 2 from by unfold T.wide; rw [if_neg (by omega)]]
      clear h
      go_enter Try.func45, Try.ntmps45
      go_wp2
      go_ret
      exact ⟨rfl, U⟩
  · by_cases h : nQ = 0
    · have d : ((nQ : Int) == 0) = true := by rw [beq_iff_eq]; omega
      rw [show T.wide 3 nP nQ nL = 0 from by unfold T.wide; rw [if_pos (by omega)]]
      clear h
      go_enter Try.func45, Try.ntmps45
      go_wp2
      go_ret
      exact ⟨rfl, U⟩
    · have d : ((nQ : Int) == 0) = false := by rw [beq_eq_false_iff_ne]; omega
      rw [show T.wide 3 nP nQ nL = 3 from by unfold T.wide; rw [if_neg (by omega)]]
      clear h
      go_enter Try.func45, Try.ntmps45
      go_wp2
      go_ret
      exact ⟨rfl, U⟩
  · by_cases h : nL = 0
    · have d : ((nL : Int) == 0) = true := by rw [beq_iff_eq]; omega
      rw [show T.wide 4 nP nQ nL = 0 from by unfold T.wide; rw [if_pos (by omega)]]
      clear h
      go_enter Try.func45, Try.ntmps45
      go_wp2
      go_ret
      exact ⟨rfl, U⟩
    · have d : ((nL : Int) == 0) = false := by rw [beq_eq_false_iff_ne]; omega
      rw [show T.wide 4 nP nQ nL = 4 from by unfold T.wide; rw [if_neg (by omega)]]
      clear h
      go_enter Try.func45, Try.ntmps45
      go_wp2
      go_ret
      exact ⟨rfl, U⟩
end

end Go.Proofs.Ytlpkheoljbdajaa
