import Derived.Test.YtlpkheoljbdajaaExp
/- The contracts of Check and Worst. -/
namespace Go.Proofs.Ytlpkheoljbdajaa
open Go.RowKit Go.Shelf
attribute [local go_sem] Oper.semAt_some

section
variable {N : Nat} {bl bh rl rh : Int} {aP aQ aL aT aC : Option Addr} {nP cP nQ cQ nL cL nT cT nC cC : Nat} {ps qs : List (Int × Int)} {ls : List T.T5} {cl : List Int} {k : Int}
theorem T.valid_N {M : Int} (h : T.valid M bl bh rl rh ps qs ls = true) : ∃ N : Nat, M = N := by
  have h1 : 1 ≤ M := by
    have q := h
    unfold T.valid at q
    rw [Bool.and_eq_true] at q
    exact (T.nights_N q.1).1
  exact Int.eq_ofNat_of_zero_le (by omega)
set_option maxRecDepth 100000 in
set_option maxHeartbeats 1000000 in
theorem Check_any {w : World} {M : Int} (I : Sps w (.slice aP nP cP) ps) (J : Sps w (.slice aQ nQ cQ) qs) (K : Lks w (.slice aL nL cL) ls) : Calls Try.prog 19 #[BoV M bl bh rl rh (.slice aP nP cP) (.slice aQ nQ cQ) (.slice aL nL cL)] w fun e w' => e = .returned (.int .i64 (if T.valid M bl bh rl rh ps qs ls then 0 else 30)) ∧ Up w w' := by
  have U := (Up.refl w).alloc (.cells (BoC M bl bh rl rh (.slice aP nP cP) (.slice aQ nQ cQ) (.slice aL nL cL)) 27)
  cases h : T.valid M bl bh rl rh ps qs ls with
  | false =>
    have HN := Lib.hid (fun w' (u : Up w w') => newBook_no (I.up u) (J.up u) (K.up u) h)
    clear I J K h
    go_enter Try.func19, Try.ntmps19
    go_wp2_with fail
    refine (HN.out _ U).mono ?_
    rintro e w1 ⟨rfl, u⟩
    have UE := (U.trans u).alloc (.cells #[.int .i64 0, .int .i64 0, .int .i64 0, .int .i64 0, .int .i64 0, .slice none 0 0, .slice none 0 0, .slice none 0 0, .bool false, .bool false, .bool false, .bool false, .bool false, .bool false, .bool false, .bool false, .bool false, .bool false] 81)
    have hst : (bookStore (.pointer (some ⟨w1.heap.size, 0, none⟩)) BkZ).run Try.prog (w1.alloc (.cells #[.int .i64 0, .int .i64 0, .int .i64 0, .int .i64 0, .int .i64 0, .slice none 0 0, .slice none 0 0, .slice none 0 0, .bool false, .bool false, .bool false, .bool false, .bool false, .bool false, .bool false, .bool false, .bool false, .bool false] 81)) = .ok () (w1.alloc (.cells #[.int .i64 0, .int .i64 0, .int .i64 0, .int .i64 0, .int .i64 0, .slice none 0 0, .slice none 0 0, .slice none 0 0, .bool false, .bool false, .bool false, .bool false, .bool false, .bool false, .bool false, .bool false, .bool false, .bool false] 81)) := by
      have q := run_bookStore_row (w1.alloc (.cells #[.int .i64 0, .int .i64 0, .int .i64 0, .int .i64 0, .int .i64 0, .slice none 0 0, .slice none 0 0, .slice none 0 0, .bool false, .bool false, .bool false, .bool false, .bool false, .bool false, .bool false, .bool false, .bool false, .bool false] 81)) w1.heap.size #[.int .i64 0, .int .i64 0, .int .i64 0, .int .i64 0, .int .i64 0, .slice none 0 0, .slice none 0 0, .slice none 0 0, .bool false, .bool false, .bool false, .bool false, .bool false, .bool false, .bool false, .bool false, .bool false, .bool false] #[.int .i64 0, .int .i64 0, .int .i64 0, .int .i64 0, .int .i64 0, .slice none 0 0, .slice none 0 0, .slice none 0 0, .bool false, .bool false, .bool false, .bool false, .bool false, .bool false, .bool false, .bool false, .bool false, .bool false] (blk_new _ _ _ rfl) rfl ⟨rfl, by simp [Value.oneCell']⟩
      rw [setRow_new _ _ _ _ _ rfl] at q
      exact q
    clear HN u U
    go_wp2
    go_ret
    exact ⟨rfl, UE⟩
  | true =>
    obtain ⟨N, rfl⟩ := T.valid_N h
    have HN := Lib.hid (fun w' (u : Up w w') => newBook_ok (I.up u) (J.up u) (K.up u) h)
    clear I J K h
    go_enter Try.func19, Try.ntmps19
    go_wp2_with fail
    refine (HN.out _ U).mono ?_
    rintro e w1 ⟨rfl, u⟩
    have UE := (U.trans u).alloc (.cells (BkC (N : Int) bl bh rl rh (.slice aP nP cP) (.slice aQ nQ cQ) (.slice aL nL cL) T.o0) 81)
    clear HN u U
    go_wp2
    go_ret
    exact ⟨rfl, UE⟩
set_option maxRecDepth 100000 in
set_option maxHeartbeats 1000000 in
theorem Worst_bad {w : World} {M : Int} (I : Sps w (.slice aP nP cP) ps) (J : Sps w (.slice aQ nQ cQ) qs) (K : Lks w (.slice aL nL cL) ls) (h : T.valid M bl bh rl rh ps qs ls = false) :
    Calls Try.prog 36 #[BoV M bl bh rl rh (.slice aP nP cP) (.slice aQ nQ cQ) (.slice aL nL cL)] w fun e w' => e = .returned (.tuple #[.int .i64 0, .int .i64 0, .int .i64 30]) ∧ Up w w' := by
  have HN := Lib.hid (fun w' (u : Up w w') => newQuestion_no (k := 2) (vc := .slice none 0 0) (I.up u) (J.up u) (K.up u) h)
  have U := (Up.refl w).alloc (.cells (BoC M bl bh rl rh (.slice aP nP cP) (.slice aQ nQ cQ) (.slice aL nL cL)) 27)
  clear I J K h
  go_enter Try.func36, Try.ntmps36
  go_wp2_with fail
  refine (HN.out _ U).mono ?_
  rintro e W1 ⟨rfl, u⟩
  have UE := (U.trans u).alloc (.cells #[.int .i64 0, .int .i64 0, .int .i64 0, .int .i64 0, .int .i64 0, .slice none 0 0, .slice none 0 0, .slice none 0 0, .bool false, .bool false, .bool false, .bool false, .bool false, .bool false, .bool false, .bool false, .bool false, .bool false, .slice none 0 0] 90)
  have hst : (webStore (.pointer (some ⟨W1.heap.size, 0, none⟩)) WeZ).run Try.prog (W1.alloc (.cells #[.int .i64 0, .int .i64 0, .int .i64 0, .int .i64 0, .int .i64 0, .slice none 0 0, .slice none 0 0, .slice none 0 0, .bool false, .bool false, .bool false, .bool false, .bool false, .bool false, .bool false, .bool false, .bool false, .bool false, .slice none 0 0] 90)) = .ok () (W1.alloc (.cells #[.int .i64 0, .int .i64 0, .int .i64 0, .int .i64 0, .int .i64 0, .slice none 0 0, .slice none 0 0, .slice none 0 0, .bool false, .bool false, .bool false, .bool false, .bool false, .bool false, .bool false, .bool false, .bool false, .bool false, .slice none 0 0] 90)) := by
    have q := run_webStore_row (W1.alloc (.cells #[.int .i64 0, .int .i64 0, .int .i64 0, .int .i64 0, .int .i64 0, .slice none 0 0, .slice none 0 0, .slice none 0 0, .bool false, .bool false, .bool false, .bool false, .bool false, .bool false, .bool false, .bool false, .bool false, .bool false, .slice none 0 0] 90)) W1.heap.size #[.int .i64 0, .int .i64 0, .int .i64 0, .int .i64 0, .int .i64 0, .slice none 0 0, .slice none 0 0, .slice none 0 0, .bool false, .bool false, .bool false, .bool false, .bool false, .bool false, .bool false, .bool false, .bool false, .bool false, .slice none 0 0] #[.int .i64 0, .int .i64 0, .int .i64 0, .int .i64 0, .int .i64 0, .slice none 0 0, .slice none 0 0, .slice none 0 0, .bool false, .bool false, .bool false, .bool false, .bool false, .bool false, .bool false, .bool false, .bool false, .bool false, .slice none 0 0] (blk_new _ _ _ rfl) rfl ⟨rfl, by simp [Value.oneCell']⟩
    rw [setRow_new _ _ _ _ _ rfl] at q
    exact q
  clear HN u U
  go_wp2
  go_ret3
  exact ⟨rfl, UE⟩
set_option maxRecDepth 100000 in
set_option maxHeartbeats 1000000 in
theorem Worst_ok {w : World} (I : Sps w (.slice aP nP cP) ps) (J : Sps w (.slice aQ nQ cQ) qs) (K : Lks w (.slice aL nL cL) ls) (h : T.valid N bl bh rl rh ps qs ls = true) :
    Calls Try.prog 36 #[BoV (N : Int) bl bh rl rh (.slice aP nP cP) (.slice aQ nQ cQ) (.slice aL nL cL)] w fun e w' => (∃ a b c, e = .returned (.tuple #[.int .i64 a, .int .i64 b, .int .i64 c]) ∧ T.WorstIs (T.web N bl bh rl rh ps qs ls T.o0) N a b c) ∧ Up w w' := by
  have HN := Lib.hid (fun w' (u : Up w w') => newQuestion_yes (k := 2) (cl := []) (I.up u) (J.up u) (K.up u) (Ints.nil w') (by omega) h rfl)
  have U := (Up.refl w).alloc (.cells (BoC (N : Int) bl bh rl rh (.slice aP nP cP) (.slice aQ nQ cQ) (.slice aL nL cL)) 27)
  have G := T.valid_bok h
  have n8 := G.n8
  have HA := Lib.hid (fun aT nT cT w0 w' (IT : Tis w0 (.slice aT nT cT) _) (u : Up w0 w') => worst_any (n := N) (bl := bl) (bh := bh) (rl := rl) (rh := rh) (aP := aP) (nP := nP) (cP := cP) (aQ := aQ) (nQ := nQ) (cQ := cQ) (aL := aL) (nL := nL) (cL := cL) (o := T.o0) n8 IT u (T.valid_web h T.o0) (.inl rfl) (fun k hk => .inr (.inl ⟨by omega, by omega⟩)))
  clear I J K h G n8
  go_enter Try.func36, Try.ntmps36
  go_wp2_with fail
  refine (HN.out _ U).mono ?_
  rintro e W1 ⟨⟨aT, nT, cT, rfl, hT⟩, u⟩
  have u2 := (Up.refl W1).alloc (.cells (WeC (N : Int) bl bh rl rh (.slice aP nP cP) (.slice aQ nQ cQ) (.slice aL nL cL) T.o0 (.slice aT nT cT)) 90)
  have UE := (U.trans u).trans u2
  have kW := blk_new W1 (.cells (WeC (N : Int) bl bh rl rh (.slice aP nP cP) (.slice aQ nQ cQ) (.slice aL nL cL) T.o0 (.slice aT nT cT)) 90) _ rfl
  have HT := Lib.hid hT
  have HU := Lib.hid u2
  clear HN u U hT u2
  go_wp2_with fail
  refine (HA.out _ _ _ _ _ HT.out HU.out).mono ?_
  rintro e Y ⟨⟨a, b, c, rfl, hW⟩, u⟩
  have UF := UE.trans u
  have HW := Lib.hid hW
  clear HA UE u hW kW
  go_wp2
  go_ret3
  exact ⟨⟨a, b, c, rfl, HW.out⟩, UF⟩
end

end Go.Proofs.Ytlpkheoljbdajaa
