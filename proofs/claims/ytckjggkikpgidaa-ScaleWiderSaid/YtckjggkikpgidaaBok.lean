import Derived.Test.YtckjggkikpgidaaNum
/- The contracts of a book's isTick and isLook. -/
namespace Go.Proofs.Ytckjggkikpgidaa
open Go.RowKit

/-- a book -/
abbrev BV (f s j dl dh ticks : Int) (st lk : Value) : Value := .agg #[.int .i64 f, .int .i64 s, .int .i64 j, .int .i64 dl, .int .i64 dh, .int .i64 ticks, st, lk]
abbrev BC (f s j dl dh ticks : Int) (st lk : Value) : Array Value := #[.int .i64 f, .int .i64 s, .int .i64 j, .int .i64 dl, .int .i64 dh, .int .i64 ticks, st, lk]

section
variable {f s j dl dh ticks : Int} {a a' : Option Addr} {n c n' c' : Nat}
set_option maxRecDepth 100000 in
theorem isTick_any (t : Int) (w : World) : Calls Try.prog 74 #[BV f s j dl dh ticks (.slice a n c) (.slice a' n' c'), .int .i64 t] w fun e w' => e = .returned (.bool (inB t 0 ticks)) ∧ Up w w' := by
  have U := (Up.refl w).alloc (.cells (BC f s j dl dh ticks (.slice a n c) (.slice a' n' c')) 104)
  have HW := Lib.hid (fun w => within_any t 0 ticks w)
  go_enter Try.func74, Try.ntmps74
  go_wp2_with fail
  refine (HW.out _).mono ?_
  rintro e w1 ⟨rfl, rfl⟩
  go_wp2
  go_ret
  exact ⟨rfl, U⟩
set_option maxRecDepth 100000 in
theorem isLook_any (t l h : Int) (w : World) : Calls Try.prog 92 #[BV f s j dl dh ticks (.slice a n c) (.slice a' n' c'), .agg #[.int .i64 t, .int .i64 l, .int .i64 h]] w fun e w' => e = .returned (.bool (inB t 0 ticks && S.spanOk l h 20000)) ∧ Up w w' := by
  have U := ((Up.refl w).alloc (.cells (BC f s j dl dh ticks (.slice a n c) (.slice a' n' c')) 104)).alloc (.cells #[.int .i64 t, .int .i64 l, .int .i64 h] 71)
  have k0 := blk_new (w.alloc (.cells (BC f s j dl dh ticks (.slice a n c) (.slice a' n' c')) 104)) (.cells #[.int .i64 t, .int .i64 l, .int .i64 h] 71) (w.heap.size + 1) (by simp)
  have HT := Lib.hid (fun w => isTick_any (f := f) (s := s) (j := j) (dl := dl) (dh := dh) (ticks := ticks) (a := a) (n := n) (c := c) (a' := a') (n' := n') (c' := c') t w)
  have HS := Lib.hid (fun w => isSpan_any l h 20000 w (by omega) (by omega))
  generalize S.spanOk l h 20000 = q at *
  cases hb : inB t 0 ticks with
  | false =>
    rw [Bool.false_and]
    rw [hb] at HT
    clear hb
    go_enter Try.func92, Try.ntmps92
    go_wp2_with fail
    refine (HT.out _).mono ?_
    rintro e w1 ⟨rfl, u1⟩
    go_wp2
    go_ret
    exact ⟨rfl, U.trans u1⟩
  | true =>
    rw [Bool.true_and]
    rw [hb] at HT
    clear hb
    go_enter Try.func92, Try.ntmps92
    go_wp2_with fail
    refine (HT.out _).mono ?_
    rintro e w1 ⟨rfl, u1⟩
    have c1 := cellB (u1.blk k0)
    have V := U.trans u1
    clear U u1 k0
    go_wp2_with fail
    refine (HS.out _).mono ?_
    rintro e w2 ⟨rfl, u2⟩
    go_wp2
    go_ret
    exact ⟨rfl, V.trans u2⟩
set_option maxRecDepth 100000 in
theorem change_last (t : Int) (ht : (n : Int) ≤ t) (w : World) : Calls Try.prog 118 #[BV f s j dl dh ticks (.slice a n c) (.slice a' n' c'), .int .i64 t] w fun e w' => e = .returned (SpV dl dh) ∧ Up w w' := by
  have U := ((Up.refl w).alloc (.cells (BC f s j dl dh ticks (.slice a n c) (.slice a' n' c')) 104)).alloc (.cells #[.int .i64 dl, .int .i64 dh] 23)
  go_enter Try.func118, Try.ntmps118
  go_wp2
  exact bodyPost_ret (v := SpV dl dh) (by simp [results, Try.results118, go_sem]) rfl ⟨rfl, U⟩
abbrev EV : Value := .agg #[.func (.func 110) #[] #[], .int .i64 (-1), .func (.func 111) #[] #[], .int .i64 1]
theorem ends_any (w : World) : Calls Try.prog 95 #[] w fun e w' => e = .returned EV ∧ Up w w' := by
  go_enter Try.func95, Try.ntmps95
  go_wp2
  exact bodyPost_ret (v := EV) (by simp [results, Try.results95, go_sem]) rfl ⟨rfl, (Up.refl _).alloc _⟩
theorem ends1_any (l h : Int) (w : World) : Calls Try.prog 110 #[SpV l h] w fun e w' => e = .returned (.int .i64 l) ∧ Up w w' := by
  go_enter Try.func110, Try.ntmps110
  go_wp2
  go_ret
  exact ⟨rfl, (Up.refl _).alloc _⟩
theorem ends2_any (l h : Int) (w : World) : Calls Try.prog 111 #[SpV l h] w fun e w' => e = .returned (.int .i64 h) ∧ Up w w' := by
  go_enter Try.func111, Try.ntmps111
  go_wp2
  go_ret
  exact ⟨rfl, (Up.refl _).alloc _⟩
end

end Go.Proofs.Ytckjggkikpgidaa
