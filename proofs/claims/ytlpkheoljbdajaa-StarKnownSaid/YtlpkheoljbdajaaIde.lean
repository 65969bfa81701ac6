import Derived.Test.YtlpkheoljbdajaaIdl
/- The contracts of Idle and sideOf. -/
namespace Go.Proofs.Ytlpkheoljbdajaa
open Go.RowKit Go.Shelf
attribute [local go_sem] Oper.semAt_some
attribute [local go_sem ↓] lookLoad_eq lookStore_eq
attribute [local go_sem] run_lookLoad run_lookStore_row

theorem sideOf_up (w : World) : Calls Try.prog 70 #[.bool true] w fun e w' => e = .returned AhV ∧ Up w w' := by
  have U := (Up.refl w).alloc (.cells #[.nilFunc, .int .i64 0] 108)
  have k := blk_new w (.cells #[.nilFunc, .int .i64 0] 108) _ rfl
  go_enter Try.func70, Try.ntmps70
  go_wp2_with fail
  refine (upwards_any _).mono ?_
  rintro e W1 ⟨rfl, u⟩
  replace k := u.blk k
  have UW := U.trans u
  have fS := frozB k
  have cS := cellB k
  have lS := blk_lt k
  obtain ⟨q, hq⟩ : ∃ x, w.heap.size = x := ⟨_, rfl⟩
  rw [hq] at k fS cS lS ⊢
  clear u U
  go_wp2_with fail
  obtain ⟨Z, hZ⟩ : ∃ z, (W1.setCell ⟨q, 0, none⟩ (.func (.func 117) #[] #[])).setCell ⟨q, 1, none⟩ (.int .i64 1) = z := ⟨_, rfl⟩
  have UZ : Up w Z := by rw [← hZ]; exact (UW.set (p := ⟨q, 0, none⟩) (by show w.heap.size ≤ q; omega) _).set (p := ⟨q, 1, none⟩) (by show w.heap.size ≤ q; omega) _
  have cZ : ∀ j, Z.cell? ⟨q, j, none⟩ = (#[Value.func (.func 117) #[] #[], .int .i64 1] : Array Value)[j]? := by rw [← hZ]; exact cellB (blk_put (blk_put k 0 _) 1 _)
  try rw [hZ]
  exact bodyPost_ret (v := AhV) (by simp [results, Try.results70, go_sem, cZ]) rfl ⟨rfl, UZ⟩
theorem sideOf_dn (w : World) : Calls Try.prog 70 #[.bool false] w fun e w' => e = .returned BeV ∧ Up w w' := by
  have U := (Up.refl w).alloc (.cells #[.nilFunc, .int .i64 0] 108)
  have k := blk_new w (.cells #[.nilFunc, .int .i64 0] 108) _ rfl
  go_enter Try.func70, Try.ntmps70
  go_wp2_with fail
  refine (downwards_any _).mono ?_
  rintro e W1 ⟨rfl, u⟩
  replace k := u.blk k
  have UW := U.trans u
  have fS := frozB k
  have cS := cellB k
  have lS := blk_lt k
  obtain ⟨q, hq⟩ : ∃ x, w.heap.size = x := ⟨_, rfl⟩
  rw [hq] at k fS cS lS ⊢
  clear u U
  go_wp2_with fail
  obtain ⟨Z, hZ⟩ : ∃ z, (W1.setCell ⟨q, 0, none⟩ (.func (.func 118) #[] #[])).setCell ⟨q, 1, none⟩ (.int .i64 (-1)) = z := ⟨_, rfl⟩
  have UZ : Up w Z := by rw [← hZ]; exact (UW.set (p := ⟨q, 0, none⟩) (by show w.heap.size ≤ q; omega) _).set (p := ⟨q, 1, none⟩) (by show w.heap.size ≤ q; omega) _
  have cZ : ∀ j, Z.cell? ⟨q, j, none⟩ = (#[Value.func (.func 118) #[] #[], .int .i64 (-1)] : Array Value)[j]? := by rw [← hZ]; exact cellB (blk_put (blk_put k 0 _) 1 _)
  try rw [hZ]
  exact bodyPost_ret (v := BeV) (by simp [results, Try.results70, go_sem, cZ]) rfl ⟨rfl, UZ⟩
section
variable {N : Nat} {bl bh rl rh : Int} {aP aQ aL : Option Addr} {nP cP nQ cQ nL cL : Nat} {ps qs : List (Int × Int)} {ls : List T.T5} {s : Nat → Bool}
set_option maxRecDepth 100000 in
set_option maxHeartbeats 1000000 in
theorem Idle_bad {w : World} {M : Int} (I : Sps w (.slice aP nP cP) ps) (J : Sps w (.slice aQ nQ cQ) qs) (K : Lks w (.slice aL nL cL) ls) (h : T.valid M bl bh rl rh ps qs ls = false) :
    Calls Try.prog 34 #[BoV M bl bh rl rh (.slice aP nP cP) (.slice aQ nQ cQ) (.slice aL nL cL)] w fun e w' => e = .returned (.tuple #[.slice none 0 0, .int .i64 30]) ∧ Up w w' := by
  have U := (Up.refl w).alloc (.cells (BoC M bl bh rl rh (.slice aP nP cP) (.slice aQ nQ cQ) (.slice aL nL cL)) 27)
  have HN := Lib.hid (fun w' (u : Up w w') => newBook_no (I.up u) (J.up u) (K.up u) h)
  clear I J K h
  go_enter Try.func34, Try.ntmps34
  go_wp2_with fail
  refine (HN.out _ U).mono ?_
  rintro e w1 ⟨rfl, u⟩
  have UE := (U.trans u).alloc (.cells #[.int .i64 0, .int .i64 0, .int .i64 0, .int .i64 0, .int .i64 0, .slice none 0 0, .slice none 0 0, .slice none 0 0, .bool false, .bool false, .bool false, .bool false, .bool false, .bool false, .bool false, .bool false, .bool false, .bool false] 81)
  have hst : (bookStore (.pointer (some ⟨w1.heap.size, 0, none⟩)) BkZ).run Try.prog (w1.alloc (.cells #[.int .i64 0, .int .i64 0, .int .i64 0, .int .i64 0, .int .i64 0, .slice none 0 0, .slice none 0 0, .slice none 0 0, .bool false, .bool false, .bool false, .bool false, .bool false, .bool false, .bool false, .bool false, .bool false, .bool false] 81)) = .ok () (w1.alloc (.cells #[.int .i64 0, .int .i64 0, .int .i64 0, .int .i64 0, .int .i64 0, .slice none 0 0, .slice none 0 0, .slice none 0 0, .bool false, .bool false, .bool false, .bool false, .bool false, .bool false, .bool false, .bool false, .bool false, .bool false] 81)) := by
    have q := run_bookStore_row (w1.alloc (.cells #[.int .i64 0, .int .i64 0, .int .i64 0, .int .i64 0, .int .i64 0, .slice none 0 0, .slice none 0 0, .slice none 0 0, .bool false, .bool false, .bool false, .bool false, .bool false, .bool false, .bool false, .bool false, .bool false, .bool false] 81)) w1.heap.size #[.int .i64 0, .int .i64 0, .int .i64 0, .int .i64 0, .int .i64 0, .slice none 0 0, .slice none 0 0, .slice none 0 0, .bool false, .bool false, .bool false, .bool false, .bool false, .bool false, .bool false, .bool false, .bool false, .bool false] #[.int .i64 0, .int .i64 0, .int .i64 0, .int .i64 0, .int .i64 0, .slice none 0 0, .slice none 0 0, .slice none 0 0, .bool false, .bool false, .bool false, .bool false, .bool false, .bool false, .bool false, .bool false, .bool false, .bool false] (blk_new _ _ _ rfl) rfl ⟨rfl, by simp [Value.oneCell']⟩
    rw [setRow_new _ _ _ _ _ rfl] at q
    exact q
  clear HN u U
  go_wp2
  go_ret2
  exact ⟨rfl, UE⟩
set_option maxRecDepth 100000 in
set_option maxHeartbeats 2000000 in
theorem Idle_ok {w : World} (I : Sps w (.slice aP nP cP) ps) (J : Sps w (.slice aQ nQ cQ) qs) (K : Lks w (.slice aL nL cL) ls) (h : T.valid N bl bh rl rh ps qs ls = true) :
    Calls Try.prog 34 #[BoV (N : Int) bl bh rl rh (.slice aP nP cP) (.slice aQ nQ cQ) (.slice aL nL cL)] w fun e w' => ((e = .returned (.tuple #[.slice none 0 0, .int .i64 32]) ∧ ∀ y, ¬ T.Sat true (T.web N bl bh rl rh ps qs ls T.o0) y) ∨ ((∃ y, T.Sat true (T.web N bl bh rl rh ps qs ls T.o0) y) ∧ ∃ v s, e = .returned (.tuple #[v, .int .i64 0]) ∧ Ints w' v (T.lst s 10) ∧ ∀ j, s j = true ↔ (j < ls.length ∧ T.Same (T.web N bl bh rl rh ps qs ls T.o0) (T.web N bl bh rl rh ps qs ls (T.st T.o0 j true))))) ∧ Up w w' := by
  have U := (Up.refl w).alloc (.cells (BoC (N : Int) bl bh rl rh (.slice aP nP cP) (.slice aQ nQ cQ) (.slice aL nL cL)) 27)
  have HN := Lib.hid (fun w' (u : Up w w') => newBook_ok (I.up u) (J.up u) (K.up u) h)
  have HI := Lib.hid (fun w' (u : Up w w') => idle_any (o := T.o0) (I.up u) (J.up u) (K.up u) h)
  clear I J K h
  have HLZ : Hid ((#[.bool false, .bool false, .bool false, .bool false, .bool false, .bool false, .bool false, .bool false, .bool false, .bool false] : Array Value).size = 10) := Lib.hid rfl
  go_enter Try.func34, Try.ntmps34
  go_wp2_with fail
  refine (HN.out _ U).mono ?_
  rintro e W1 ⟨rfl, u1⟩
  have u2 := (Up.refl W1).alloc (.cells (BkC (N : Int) bl bh rl rh (.slice aP nP cP) (.slice aQ nQ cQ) (.slice aL nL cL) T.o0) 81)
  have kB := blk_new W1 (.cells (BkC (N : Int) bl bh rl rh (.slice aP nP cP) (.slice aQ nQ cQ) (.slice aL nL cL) T.o0) 81) _ rfl
  have UW := (U.trans u1).trans u2
  have lB := blk_lt kB
  clear HN u1 u2 U
  go_wp2_with fail
  refine (HI.out _ UW).mono ?_
  rintro e W3 ⟨hR, u3⟩
  replace UW := UW.trans u3
  clear HI u3 kB lB
  rcases hR with ⟨rfl, hno⟩ | ⟨hex, s, rfl, hs⟩
  · have UE := UW.alloc (.cells #[.bool false, .bool false, .bool false, .bool false, .bool false, .bool false, .bool false, .bool false, .bool false, .bool false] 79)
    have hst : (lookStore (.pointer (some ⟨W3.heap.size, 0, none⟩)) (.agg #[.bool false, .bool false, .bool false, .bool false, .bool false, .bool false, .bool false, .bool false, .bool false, .bool false])).run Try.prog (W3.alloc (.cells #[.bool false, .bool false, .bool false, .bool false, .bool false, .bool false, .bool false, .bool false, .bool false, .bool false] 79)) = .ok () (W3.alloc (.cells #[.bool false, .bool false, .bool false, .bool false, .bool false, .bool false, .bool false, .bool false, .bool false, .bool false] 79)) := by
      have q := run_lookStore_row (W3.alloc (.cells #[.bool false, .bool false, .bool false, .bool false, .bool false, .bool false, .bool false, .bool false, .bool false, .bool false] 79)) W3.heap.size #[.bool false, .bool false, .bool false, .bool false, .bool false, .bool false, .bool false, .bool false, .bool false, .bool false] #[.bool false, .bool false, .bool false, .bool false, .bool false, .bool false, .bool false, .bool false, .bool false, .bool false] (blk_new _ _ _ rfl) HLZ (ok10 fun _ => false)
      rw [setRow_new _ _ _ _ _ rfl] at q
      exact q
    have HNO := Lib.hid hno
    clear hno
    go_wp2
    go_ret2
    exact ⟨.inl ⟨rfl, HNO.out⟩, UE⟩
  · have HL := Lib.hid (fun w' => list_any s w')
    have hok := ok10 s
    obtain ⟨ck, hck⟩ : ∃ x, T.bc s = x := ⟨_, rfl⟩
    have HCK := Lib.hid hck
    rw [show (LoV s) = .agg ck from by rw [← hck]] at HL
    rw [hck] at hok ⊢
    have hsz := Lib.hid hok.1
    have u4 := (Up.refl W3).alloc (.cells ck 79)
    have hst : (lookStore (.pointer (some ⟨W3.heap.size, 0, none⟩)) (.agg ck)).run Try.prog (W3.alloc (.cells #[.bool false, .bool false, .bool false, .bool false, .bool false, .bool false, .bool false, .bool false, .bool false, .bool false] 79)) = .ok () (W3.alloc (.cells ck 79)) := by
      have q := run_lookStore_row (W3.alloc (.cells #[.bool false, .bool false, .bool false, .bool false, .bool false, .bool false, .bool false, .bool false, .bool false, .bool false] 79)) W3.heap.size #[.bool false, .bool false, .bool false, .bool false, .bool false, .bool false, .bool false, .bool false, .bool false, .bool false] ck (blk_new _ _ _ rfl) HLZ hok
      rw [setRow_new _ _ _ _ _ rfl] at q
      exact q
    have kL := blk_new W3 (.cells ck 79) _ rfl
    have HEX := Lib.hid (And.intro hex hs)
    replace UW := UW.trans u4
    clear hex hs hck u4
    go_wp2_with fail
    refine (HL.out _).mono ?_
    rintro e W4 ⟨⟨v, rfl, hi⟩, u5⟩
    have HI := Lib.hid hi
    have UE := UW.trans u5
    clear HL hi u5
    go_wp2
    go_ret2
    exact ⟨.inr ⟨HEX.out.1, v, s, rfl, HI.out, HEX.out.2⟩, UE⟩
end

end Go.Proofs.Ytlpkheoljbdajaa
