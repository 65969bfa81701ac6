import Derived.Test.YtckjggkikpgidaaChg
/- The contracts of areAll, of the library functions below it, and of newBook. -/
namespace Go.Proofs.Ytckjggkikpgidaa
open Go.RowKit

/-- a slice of looks, in memory -/
structure Lks (w : World) (v : Value) (ls : List (Int × Int × Int)) : Prop where
  mk :: (is : ∃ a c, v = .slice a ls.length c ∧ ls.length ≤ c ∧ ls.length ≤ 9223372036854775807 ∧ (0 < ls.length → ∃ g off, a = some ⟨g, off, none⟩ ∧ g < w.heap.size ∧ ∀ j, j < ls.length → w.cell? ⟨g, off + j * 3, none⟩ = some (.int .i64 (ls.getD j (0, 0, 0)).1) ∧ w.cell? ⟨g, off + j * 3 + 1, none⟩ = some (.int .i64 (ls.getD j (0, 0, 0)).2.1) ∧ w.cell? ⟨g, off + j * 3 + 2, none⟩ = some (.int .i64 (ls.getD j (0, 0, 0)).2.2)))
theorem Lks.up {w w' : World} {v : Value} {ls : List (Int × Int × Int)} (h : Lks w v ls) (u : Up w w') : Lks w' v ls := by
  obtain ⟨a, c, e, hc, hl, hm⟩ := h.is
  refine ⟨a, c, e, hc, hl, fun h0 => ?_⟩
  obtain ⟨g, off, e1, e2, e3⟩ := hm h0
  exact ⟨g, off, e1, by have := u.size; omega, fun j hj => ⟨(u.facts.1 g _ e2).trans (e3 j hj).1, (u.facts.1 g _ e2).trans (e3 j hj).2.1, (u.facts.1 g _ e2).trans (e3 j hj).2.2⟩⟩
/-- is a look one? -/
def S.lookOk (ticks : Int) (l : Int × Int × Int) : Bool := inB l.1 0 ticks && S.spanOk l.2.1 l.2.2 20000
theorem S.all_drop {p : Int × Int × Int → Bool} {ls : List (Int × Int × Int)} {k : Nat} (hk : k < ls.length) : (ls.drop k).all p = (p (ls.getD k (0, 0, 0)) && (ls.drop (k + 1)).all p) := by
  rw [List.drop_eq_getElem_cons hk, List.all_cons, List.getD_eq_getElem?_getD, List.getElem?_eq_getElem hk]
  rfl
abbrev LV (t l h : Int) : Value := .agg #[.int .i64 t, .int .i64 l, .int .i64 h]

section
variable {f s j dl dh ticks : Int} {a a' : Option Addr} {n c n' c' : Nat}
set_option maxRecDepth 100000 in
theorem areAll1_any (t l h : Int) {B : Nat} {w : World} (kB : mblk w B = some (.cells #[.func (.func 92) #[BV f s j dl dh ticks (.slice a n c) (.slice a' n' c')] #[]] 134 (0, 0))) : Calls Try.prog 107 #[LV t l h, .pointer (some ⟨B, 0, none⟩)] w fun e w' => e = .returned (.bool (!S.lookOk ticks (t, l, h))) ∧ Up w w' := by
  have U := (Up.refl w).alloc (.cells #[.int .i64 t, .int .i64 l, .int .i64 h] 71)
  have k0 := blk_new w (.cells #[.int .i64 t, .int .i64 l, .int .i64 h] 71) w.heap.size rfl
  have k1 := blk_keep (.cells #[.int .i64 t, .int .i64 l, .int .i64 h] 71) kB
  have lB := blk_lt kB
  have f0 := cellB k0
  have f1 := cellB k1
  have HL := Lib.hid (fun w => isLook_any (f := f) (s := s) (j := j) (dl := dl) (dh := dh) (ticks := ticks) (a := a) (n := n) (c := c) (a' := a') (n' := n') (c' := c') t l h w)
  have eq : S.lookOk ticks (t, l, h) = (inB t 0 ticks && S.spanOk l h 20000) := rfl
  rw [eq]
  generalize (inB t 0 ticks && S.spanOk l h 20000) = q at *
  clear eq
  go_enter Try.func107, Try.ntmps107
  go_wp2_with fail
  refine (HL.out _).mono ?_
  rintro e w1 ⟨rfl, u1⟩
  go_wp2
  go_ret
  exact ⟨rfl, U.trans u1⟩

set_option maxRecDepth 100000 in
set_option maxHeartbeats 1000000 in
theorem indexFunc_any {ls : List (Int × Int × Int)} {v : Value} {w : World} (I : Lks w v ls) {B : Nat} (kB : mblk w B = some (.cells #[.func (.func 92) #[BV f s j dl dh ticks (.slice a n c) (.slice a' n' c')] #[]] 134 (0, 0))) : Calls Try.prog 115 #[v, .func (.func 107) #[] #[.pointer (some ⟨B, 0, none⟩)]] w fun e w' => ∃ r : Int, e = .returned (.int .i64 r) ∧ decide (r ≥ 0) = !ls.all (S.lookOk ticks) ∧ Up w w' := by
  obtain ⟨a0, c0, rfl, _, hl, hm⟩ := I.is
  have HI := Lib.hid I
  have HB := Lib.hid (fun w' (u : Up w w') t l h => areAll1_any t l h (u.blk kB))
  clear hm I kB
  go_enter Try.func115, Try.ntmps115
  go_wp2_with fail
  go_loopw [8] (fun i wr => ∃ k : Nat, k ≤ ls.length ∧ i = .int .i64 k ∧ Hid (ls.all (S.lookOk ticks) = (ls.drop k).all (S.lookOk ticks)) ∧ Up w wr) (fun i _ => ls.length - (intOf i).toNat)
  case atStart => exact ⟨0, Nat.zero_le _, rfl, rfl, Up.refl _⟩
  case round =>
    obtain ⟨k, hk, rfl, hD, U⟩ := hrel
    by_cases hlt : k < ls.length
    · obtain ⟨a1, c1, e1, _, _, hm⟩ := (HI.out.up U).is
      injection e1 with e1 e2 e3
      subst e1 e3
      clear e2
      obtain ⟨g, off, rfl, gl, hc⟩ := hm (by omega)
      obtain ⟨x1, x2, x3⟩ := hc k hlt
      have st := S.all_drop (p := S.lookOk ticks) hlt
      generalize ls.getD k (0, 0, 0) = z at *
      obtain ⟨t, lo, hi⟩ := z
      simp only at x1 x2 x3
      have HC := Lib.hid (HB.out wr U t lo hi)
      clear hc hm
      cases hq : S.lookOk ticks (t, lo, hi) with
      | true =>
        rw [hq, Bool.true_and] at st
        have h3 := Lib.hid (hD.out.trans st)
        rw [hq, Bool.not_true] at HC
        clear st hD hq
        go_wp2_with fail
        refine HC.out.mono ?_
        rintro e w1 ⟨rfl, u1⟩
        go_wp2
        go_roundw
        case rel => exact ⟨k + 1, by omega, by go_num, h3, U.trans u1⟩
        case measure => simp [intOf]; omega
      | false =>
        rw [hq, Bool.false_and] at st
        have h3 := Lib.hid (hD.out.trans st)
        rw [hq, Bool.not_false] at HC
        clear st hD hq
        go_wp2_with fail
        refine HC.out.mono ?_
        rintro e w1 ⟨rfl, u1⟩
        go_wp2
        go_ret
        exact ⟨_, rfl, (by rw [h3.out]; simp : decide ((k : Int) ≥ 0) = _), U.trans u1⟩
    · have h3 := hD.out
      rw [List.drop_eq_nil_of_le (by omega)] at h3
      have h4 := Lib.hid h3
      clear h3
      go_wp2
      go_ret
      exact ⟨-1, rfl, by rw [h4.out]; simp, U⟩
set_option maxRecDepth 100000 in
theorem containsFunc_any {ls : List (Int × Int × Int)} {v : Value} {w : World} (I : Lks w v ls) {B : Nat} (kB : mblk w B = some (.cells #[.func (.func 92) #[BV f s j dl dh ticks (.slice a n c) (.slice a' n' c')] #[]] 134 (0, 0))) : Calls Try.prog 106 #[v, .func (.func 107) #[] #[.pointer (some ⟨B, 0, none⟩)]] w fun e w' => e = .returned (.bool (!ls.all (S.lookOk ticks))) ∧ Up w w' := by
  have H := Lib.hid (indexFunc_any I kB)
  generalize (!ls.all (S.lookOk ticks)) = q at *
  clear I kB
  go_enter Try.func106, Try.ntmps106
  go_wp2_with fail
  refine H.out.mono ?_
  rintro e w1 ⟨r, rfl, hr, u1⟩
  go_wp2
  go_ret
  exact ⟨rfl, u1⟩
set_option maxRecDepth 100000 in
theorem areAll_any {ls : List (Int × Int × Int)} {v : Value} {w : World} (I : Lks w v ls) : Calls Try.prog 91 #[v, .int .i64 10, .func (.func 92) #[BV f s j dl dh ticks (.slice a n c) (.slice a' n' c')] #[]] w fun e w' => e = .returned (.bool (decide (ls.length ≤ 10) && ls.all (S.lookOk ticks))) ∧ Up w w' := by
  have U := (Up.refl w).alloc (.cells #[.func (.func 92) #[BV f s j dl dh ticks (.slice a n c) (.slice a' n' c')] #[]] 134)
  have H := Lib.hid (containsFunc_any (I.up U) (blk_new w (.cells #[.func (.func 92) #[BV f s j dl dh ticks (.slice a n c) (.slice a' n' c')] #[]] 134) _ rfl))
  obtain ⟨a0, c0, rfl, _, hl, _⟩ := I.is
  clear I
  by_cases h10 : ls.length ≤ 10
  · rw [decide_eq_true h10, Bool.true_and]
    generalize ls.all (S.lookOk ticks) = q at *
    have g : (ls.length : Int) ≤ 10 := by omega
    go_enter Try.func91, Try.ntmps91
    go_wp2_with fail
    refine H.out.mono ?_
    rintro e w1 ⟨rfl, u1⟩
    go_wp2
    go_ret
    exact ⟨rfl, U.trans u1⟩
  · rw [decide_eq_false h10, Bool.false_and]
    have g : ¬ (ls.length : Int) ≤ 10 := by omega
    clear H
    go_enter Try.func91, Try.ntmps91
    go_wp2
    go_ret
    exact ⟨rfl, U⟩
end

end Go.Proofs.Ytckjggkikpgidaa
