import Derived.Test.YtlpkheoljbdajaaIdm
import Derived.Test.YtlpkheoljbdajaaHst
import Derived.Test.YtlpkheoljbdajaaIde
import Derived.Test.YtlpkheoljbdajaaHeQ
/- The law StarIdle. -/
namespace Go.Proofs.Ytlpkheoljbdajaa
open Go.RowKit Go.Shelf
attribute [local go_sem] Oper.semAt_some

theorem T.shl_run : ∀ n : Nat, n ≤ 10 → IntKind.i64.wrap (2 ^ n) = 2 ^ n := by decide
theorem T.shl_run1 : ∀ n : Nat, n ≤ 10 → IntKind.i64.wrap (2 ^ n - 1) = ((2 ^ n - 1 : Nat) : Int) := by decide
theorem T.ones_bit (n k : Nat) (h : k < n) : (2 ^ n - 1).testBit k = true := by rw [Nat.testBit_two_pow_sub_one]; exact decide_eq_true h
theorem Lks.none_ {w : World} {a : Option Addr} {c : Nat} : Lks w (.slice a 0 c) [] := ⟨a, c, rfl, Nat.zero_le _, by simp, fun h => absurd h (by simp)⟩
def T.Lp (f : Nat → Bool) (s0 : Bool) (n : Nat) (b i : Value) : Prop := ∃ (j : Nat) (bb : Bool), j ≤ n ∧ bb = (s0 && T.allB f j) ∧ b = .bool bb ∧ i = .int .i64 j
theorem T.mul_bd (k : Nat) (h : k < 8) (r : Int) (hr : -1000 ≤ r ∧ r ≤ 1000) : -8000 ≤ (k : Int) * r ∧ (k : Int) * r ≤ 8000 := by
  have a : k = 0 ∨ k = 1 ∨ k = 2 ∨ k = 3 ∨ k = 4 ∨ k = 5 ∨ k = 6 ∨ k = 7 := by omega
  rcases a with rfl | rfl | rfl | rfl | rfl | rfl | rfl | rfl <;> constructor <;> simp <;> omega
theorem Worst_wr {N : Nat} {bl bh rl rh : Int} {aP aQ aL : Option Addr} {nP cP nQ cQ nL cL : Nat} {ps qs : List (Int × Int)} {ls : List T.T5} {w : World} (hv : T.valid N bl bh rl rh ps qs ls = true) (hx : ∃ y, T.Tr N bl bh rl rh ps qs ls y) (I : Sps w (.slice aP nP cP) ps) (J : Sps w (.slice aQ nQ cQ) qs) (K : Lks w (.slice aL nL cL) ls) :
    Calls Try.prog 36 #[BoV (N : Int) bl bh rl rh (.slice aP nP cP) (.slice aQ nQ cQ) (.slice aL nL cL)] w fun e w' => e = .returned (.tuple #[.int .i64 (T.wr (fun k => (T.tl (T.Tr N bl bh rl rh ps qs ls) 0 (1 + (k : Int))).2 - (T.tl (T.Tr N bl bh rl rh ps qs ls) 0 (1 + (k : Int))).1) N).1, .int .i64 (T.wr (fun k => (T.tl (T.Tr N bl bh rl rh ps qs ls) 0 (1 + (k : Int))).2 - (T.tl (T.Tr N bl bh rl rh ps qs ls) 0 (1 + (k : Int))).1) N).2.1, .int .i64 (T.wr (fun k => (T.tl (T.Tr N bl bh rl rh ps qs ls) 0 (1 + (k : Int))).2 - (T.tl (T.Tr N bl bh rl rh ps qs ls) 0 (1 + (k : Int))).1) N).2.2]) ∧ Up w w' :=
  (Worst_ok I J K hv).mono fun e w' ⟨⟨a, b, c, h1, h2⟩, u⟩ => by
    have q := T.worst_wr hv hx h2
    rw [← q]
    exact ⟨h1, u⟩
theorem S.span_ne {a b c d : Int} (h : (a, b) ≠ (c, d)) : (a == c) = false ∨ ((a == c) = true ∧ (b == d) = false) := by
  by_cases e : a = c
  · refine .inr ⟨beq_iff_eq.2 e, ?_⟩
    rw [beq_eq_false_iff_ne]
    intro e2
    exact h (by rw [e, e2])
  · exact .inl (by rw [beq_eq_false_iff_ne]; exact e)
section
variable {bl bh rl rh : Int} {aP aQ aL : Option Addr} {nP cP nQ cQ nL cL : Nat} {ps qs : List (Int × Int)} {ls : List T.T5}
set_option maxRecDepth 100000 in
set_option maxHeartbeats 8000000 in
theorem starIdle_any {M z0 : Int} {w : World} (I : Sps w (.slice aP nP cP) ps) (J : Sps w (.slice aQ nQ cQ) qs) (K : Lks w (.slice aL nL cL) ls) :
    Calls Try.prog 14 #[BoV M bl bh rl rh (.slice aP nP cP) (.slice aQ nQ cQ) (.slice aL nL cL), .int .i64 z0] w fun e w' => e = .returned (.bool true) ∧ Up w w' := by
  have U := ((Up.refl w).alloc (.cells (BoC M bl bh rl rh (.slice aP nP cP) (.slice aQ nQ cQ) (.slice aL nL cL)) 27))
  have HW := Lib.hid (fun w => l_works_any w)
  cases hv : T.valid M bl bh rl rh ps qs ls with
  | false =>
    have HS := Lib.hid (fun w' (u : Up w w') => l_sound_no (I.up u) (J.up u) (K.up u) hv)
    clear hv I J K 
    go_enter Try.func14, Try.ntmps14
    go_wp2_with fail
    refine (HS.out _ U).mono ?_
    rintro e w1 ⟨rfl, u1⟩
    go_wp2_with fail
    refine (HW.out _).mono ?_
    rintro e w2 ⟨rfl, u2⟩
    go_wp2
    go_ret
    exact ⟨rfl, (U.trans u1).trans u2⟩
  | true =>
    obtain ⟨N, rfl⟩ := T.valid_N hv
    obtain ⟨⟨hN, hB, hR⟩, ⟨h4, h5, h10⟩, hP, hQ, hL⟩ := T.valid_parts hv
    have HS := Lib.hid (fun w' (u : Up w w') => l_sound_yes (I.up u) (J.up u) (K.up u) hv)
    have hn := I.len
    have hno := J.len
    have hnp := K.len
    have hmx : Try.prog.follows .mixedOrders = true := by kernel_rfl
    subst hnp
    have HN := Lib.hid (fun w' (u : Up w w') (vl : Value) (zs : List Int) (IL : Ints w' vl zs) => l_without_any (M := (N : Int)) (bl := bl) (bh := bh) (rl := rl) (rh := rh) (aP := aP) (nP := nP) (cP := cP) (aQ := aQ) (nQ := nQ) (cQ := cQ) (K.up u) IL h10)
    have HI := Lib.hid (fun w' (u : Up w w') => I.up u)
    have HJ := Lib.hid (fun w' (u : Up w w') => J.up u)
    have wz : IntKind.i64.wrap (2 ^ ls.length) = 2 ^ ls.length := T.shl_run _ (by omega)
    have wz1 := T.shl_run1 ls.length (by omega)
    have h2n : 0 < 2 ^ ls.length ∧ 2 ^ ls.length ≤ 1024 := ⟨Nat.pow_pos (by decide), Nat.le_trans (Nat.pow_le_pow_right (n := 2) (by decide) h10) (by decide)⟩
    have HL := Lib.hid (fun w => B_List_any (2 ^ ls.length - 1) ls.length (by omega) h10 w)
    have knone : T.kpt (T.lst (fun k => (2 ^ ls.length - 1).testBit k) ls.length) ls ls.length = [] := T.kpt_none fun k hk => (T.mem_lst _ _).2 ⟨hk, T.ones_bit _ _ hk⟩
    obtain ⟨LA, hLA⟩ : ∃ l, T.lst (fun k => (2 ^ ls.length - 1).testBit k) ls.length = l := ⟨_, rfl⟩
    rw [hLA] at HL knone
    obtain ⟨pw, hpw⟩ : ∃ x : Nat, 2 ^ ls.length - 1 = x := ⟨_, rfl⟩
    rw [hpw] at HL wz1
    have hv0 : T.valid N bl bh rl rh ps qs [] = true := T.valid_looks hv (by simp) (fun x hx => by cases hx)
    have CO := Lib.hid (fun (k : Nat) (hk : k < N) w' (u : Up w w') (a : Option Addr) (c : Nat) => Offset_tells (n := (k : Int)) hv0 ⟨by omega, by omega⟩ (T.none_tells hv hk) (I.up u) (J.up u) (Lks.none_ (w := w') (a := a) (c := c)))
    have HTo := Lib.hid (fun l h w => B_To_any l h w)
    have HKN := Lib.hid knone
    have HId := Lib.hid (fun w' (u : Up w w') => Idle_ok (I.up u) (J.up u) (K.up u) hv)
    have HV := Lib.hid hv
    have HK := Lib.hid (fun w' (u : Up w w') => K.up u)
    have HNP := Lib.hid hn
    have HNQ := Lib.hid hno
    have hbB : -1000000 ≤ bl ∧ bl ≤ 1000000 ∧ -1000000 ≤ bh ∧ bh ≤ 1000000 := by omega
    have hbR : -1000 ≤ rl ∧ rl ≤ 1000 ∧ -1000 ≤ rh ∧ rh ≤ 1000 := by omega
    have HBB := Lib.hid hbB
    have HBR := Lib.hid hbR
    have HNN := Lib.hid hN
    clear knone hLA hpw hv0 hP hQ hL hB hR h2n hbB hbR hN
    clear hv I J K hn hno
    go_enter Try.func14, Try.ntmps14
    obtain ⟨q0, e0⟩ : ∃ x, w.heap.size = x := ⟨_, rfl⟩
    have kB := (blk_new w (.cells (BoC (N : Int) bl bh rl rh (.slice aP nP cP) (.slice aQ nQ cQ) (.slice aL ls.length cL)) 27) q0 e0.symm)
    go_wp2_with fail
    refine (HS.out _ U).mono ?_
    rintro e x1 ⟨rfl, u2⟩
    replace U := U.trans u2
    replace kB := u2.blk kB
    clear u2 HS
    go_wp2_with fail
    apply T.mergeV2 (fun w' b v1 v2 => Up w w' ∧ mblk w' (q0) = some (.cells (BoC (N : Int) bl bh rl rh (.slice aP nP cP) (.slice aQ nQ cQ) (.slice aL ls.length cL)) 27 (0, 0)) ∧ mblk w' b = some (.cells (BoC (N : Int) bl bh rl rh (.slice aP nP cP) (.slice aQ nQ cQ) v2) 27 (0, 0)) ∧ ∃ a c, v2 = .slice a 0 c)
    · intro HKey
      refine (wpIn_wide (n := 5)).1 ?_
      refine wpIn_nrm ?_
      refine regionG (fun w' => Up w w' ∧ mblk w' (q0) = some (.cells (BoC (N : Int) bl bh rl rh (.slice aP nP cP) (.slice aQ nQ cQ) (.slice aL ls.length cL)) 27 (0, 0))) 12 hmx ⟨U.drew, (by rw [blk_drew]; exact kB)⟩ (fun hHeld hCl => ?_)
      refine takeG (i := 0) (d := (some 39)) (v := ?v1) rfl rfl (by kernel_rfl) (by kernel_rfl) (by decide) hCl (by kernel_rfl) (by kernel_rfl) (by kernel_rfl) (fun _ _ _ h => h) (by rfl) ?hy1 (fun _ _ _ => trivial) (by assumption) (fun hCl' => ?_)
      case hy1 => ((intro w hSw; (try dsimp only at hSw); (try go_split_ands); go_simp); try with_reducible rfl)
      simp only [Act.put, List.setIfInBounds_toArray, List.set_cons_zero, List.set_cons_succ]
      replace hCl := hCl'; clear hCl'
      refine takeG (i := 1) (d := (some 40)) (v := ?v2) rfl rfl (by kernel_rfl) (by kernel_rfl) (by decide) hCl (by kernel_rfl) (by kernel_rfl) (by kernel_rfl) (fun _ _ _ h => h) (by rfl) ?hy2 (fun _ _ _ => trivial) (by assumption) (fun hCl' => ?_)
      case hy2 => ((intro w hSw; (try dsimp only at hSw); (try go_split_ands); go_simp); try with_reducible rfl)
      simp only [Act.put, List.setIfInBounds_toArray, List.set_cons_zero, List.set_cons_succ]
      replace hCl := hCl'; clear hCl'
      refine takeG (i := 2) (d := (some 41)) (v := ?v3) rfl rfl (by kernel_rfl) (by kernel_rfl) (by decide) hCl (by kernel_rfl) (by kernel_rfl) (by kernel_rfl) (fun _ _ _ h => h) (by rfl) ?hy3 (fun _ _ _ => trivial) (by assumption) (fun hCl' => ?_)
      case hy3 => ((intro w hSw; (try dsimp only at hSw); (try go_split_ands); go_simp); try with_reducible rfl)
      simp only [Act.put, List.setIfInBounds_toArray, List.set_cons_zero, List.set_cons_succ]
      replace hCl := hCl'; clear hCl'
      refine takeG (i := 3) (d := (some 42)) (v := ?v4) rfl rfl (by kernel_rfl) (by kernel_rfl) (by decide) hCl (by kernel_rfl) (by kernel_rfl) (by kernel_rfl) (fun _ _ _ h => h) (by rfl) ?hy4 (fun _ _ _ => trivial) (by assumption) (fun hCl' => ?_)
      case hy4 => ((intro w hSw; (try dsimp only at hSw); (try go_split_ands); go_simp); try with_reducible rfl)
      simp only [Act.put, List.setIfInBounds_toArray, List.set_cons_zero, List.set_cons_succ]
      replace hCl := hCl'; clear hCl'
      refine takeG (i := 4) (d := (some 43)) (v := ?v5) rfl rfl (by kernel_rfl) (by kernel_rfl) (by decide) hCl (by kernel_rfl) (by kernel_rfl) (by kernel_rfl) (fun _ _ _ h => h) (by rfl) ?hy5 (fun _ _ _ => trivial) (by assumption) (fun hCl' => ?_)
      case hy5 => ((intro w hSw; (try dsimp only at hSw); (try go_split_ands); go_simp); try with_reducible rfl)
      simp only [Act.put, List.setIfInBounds_toArray, List.set_cons_zero, List.set_cons_succ]
      replace hCl := hCl'; clear hCl'
      refine takeG (i := 5) (d := (some 44)) (v := ?v6) rfl rfl (by kernel_rfl) (by kernel_rfl) (by decide) hCl (by kernel_rfl) (by kernel_rfl) (by kernel_rfl) (fun _ _ _ h => h) (by rfl) ?hy6 (fun _ _ _ => trivial) (by assumption) (fun hCl' => ?_)
      case hy6 => ((intro w hSw; (try dsimp only at hSw); (try go_split_ands); go_simp); try with_reducible rfl)
      simp only [Act.put, List.setIfInBounds_toArray, List.set_cons_zero, List.set_cons_succ]
      replace hCl := hCl'; clear hCl'
      refine takeG (i := 6) (d := (some 45)) (v := ?v7) rfl rfl (by kernel_rfl) (by kernel_rfl) (by decide) hCl (by kernel_rfl) (by kernel_rfl) (by kernel_rfl) (fun _ _ _ h => h) (by rfl) ?hy7 (fun _ _ _ => trivial) (by assumption) (fun hCl' => ?_)
      case hy7 => ((intro w hSw; (try dsimp only at hSw); (try go_split_ands); go_simp); try with_reducible rfl)
      simp only [Act.put, List.setIfInBounds_toArray, List.set_cons_zero, List.set_cons_succ]
      replace hCl := hCl'; clear hCl'
      refine takeG (i := 7) (d := (some 46)) (v := ?v8) rfl rfl (by kernel_rfl) (by kernel_rfl) (by decide) hCl (by kernel_rfl) (by kernel_rfl) (by kernel_rfl) (fun _ _ _ h => h) (by rfl) ?hy8 (fun _ _ _ => trivial) (by assumption) (fun hCl' => ?_)
      case hy8 => ((intro w hSw; (try dsimp only at hSw); (try go_split_ands); go_simp); try with_reducible rfl)
      simp only [Act.put, List.setIfInBounds_toArray, List.set_cons_zero, List.set_cons_succ]
      replace hCl := hCl'; clear hCl'
      refine takeG (i := 8) (d := (some 47)) (v := ?v9) rfl rfl (by kernel_rfl) (by kernel_rfl) (by decide) hCl (by kernel_rfl) (by kernel_rfl) (by kernel_rfl) (fun _ _ _ h => h) (by rfl) ?hy9 (fun _ _ _ => trivial) (by assumption) (fun hCl' => ?_)
      case hy9 => ((intro w hSw; (try dsimp only at hSw); (try go_split_ands); go_simp); try with_reducible rfl)
      simp only [Act.put, List.setIfInBounds_toArray, List.set_cons_zero, List.set_cons_succ]
      replace hCl := hCl'; clear hCl'
      obtain ⟨X0, hX0⟩ : ∃ z, x1.drew = z := ⟨_, rfl⟩
      rw [hX0] at hHeld ⊢
      clear hX0
      refine nextG2 (i := 9) (j := 11) (by kernel_rfl) rfl rfl (by rfl) (by rfl) hCl ?_ ?_
      · skip
        refine (fun K hK => ?_)
        go_simp
        refine ⟨trivial, (callsIn_wide.2 (HL.out _)).mono ?_⟩
        rintro e X1 ⟨⟨vo, rfl, ILo⟩, u⟩
        refine hK.out _ _ ⟨hHeld.1.trans u, u.blk hHeld.2⟩ (fun hHeld hCl => ?_)
        clear hK K u
        try (dsimp only [List.getElem_toArray, List.getElem_cons_succ, List.getElem_cons_zero]
             simp only [Act.put, List.setIfInBounds_toArray, List.set_cons_zero, List.set_cons_succ])
        refine nextG2 (i := 10) (j := 11) (by kernel_rfl) rfl rfl (by rfl) (by rfl) hCl ?_ ?_
        · skip
          refine (fun K hK => ?_)
          go_simp
          refine ⟨trivial, (callsIn_wide.2 (HN.out _ hHeld.1 _ _ ILo)).mono ?_⟩
          rintro e X2 ⟨⟨a5, n5, c5, rfl, J5⟩, u⟩
          replace ILo := ILo.up u
          refine hK.out _ _ ⟨hHeld.1.trans u, u.blk hHeld.2⟩ (fun hHeld hCl => ?_)
          clear hK K u
          rw [HKN.out] at J5
          obtain rfl : n5 = 0 := J5.len
          clear J5
          try (dsimp only [List.getElem_toArray, List.getElem_cons_succ, List.getElem_cons_zero]
               simp only [Act.put, List.setIfInBounds_toArray, List.set_cons_zero, List.set_cons_succ])
          refine nextG (i := 11) (by kernel_rfl) rfl (by rfl) hCl (fun K hK => ?_)
          go_simp
          have u : Up X2 (X2.alloc (.cells #[.int .i64 0, .int .i64 0, .int .i64 0, .int .i64 0, .int .i64 0, .slice none 0 0, .slice none 0 0, .slice none 0 0] 27)) := (Up.refl X2).alloc _
          have kN := blk_new X2 (.cells #[.int .i64 0, .int .i64 0, .int .i64 0, .int .i64 0, .int .i64 0, .slice none 0 0, .slice none 0 0, .slice none 0 0] 27) _ rfl
          have gN : w.heap.size ≤ X2.heap.size := hHeld.1.size
          have dN0 := blk_lt hHeld.2
          obtain ⟨pN, hpN⟩ : ∃ q, X2.heap.size = q := ⟨_, rfl⟩
          obtain ⟨X3, hX⟩ : ∃ z, X2.alloc (.cells #[.int .i64 0, .int .i64 0, .int .i64 0, .int .i64 0, .int .i64 0, .slice none 0 0, .slice none 0 0, .slice none 0 0] 27) = z := ⟨_, rfl⟩
          rw [hX] at u kN
          rw [hpN] at kN gN dN0
          replace ILo := ILo.up u
          try rw [hX]
          try rw [hpN]
          refine hK.out _ _ ⟨hHeld.1.trans u, u.blk hHeld.2⟩ (fun hHeld hCl => ?_)
          clear hK K u hX hpN
          try (dsimp only [List.getElem_toArray, List.getElem_cons_succ, List.getElem_cons_zero]
               simp only [Act.put, List.setIfInBounds_toArray, List.set_cons_zero, List.set_cons_succ])
          have zf := frozB kN
          have hH := hHeld
          clear hCl hHeld
          refine lastG (i := 12) (by kernel_rfl) rfl (by rfl) (by decide) (fun K hK => ?_)
          go_simp
          have UZ := ((((((((hH.1.set (p := ⟨pN, 0, none⟩) (show w.heap.size ≤ pN by omega) (.int .i64 (N : Int))).set (p := ⟨pN, 1, none⟩) (show w.heap.size ≤ pN by omega) (.int .i64 bl)).set (p := ⟨pN, 2, none⟩) (show w.heap.size ≤ pN by omega) (.int .i64 bh)).set (p := ⟨pN, 3, none⟩) (show w.heap.size ≤ pN by omega) (.int .i64 rl)).set (p := ⟨pN, 4, none⟩) (show w.heap.size ≤ pN by omega) (.int .i64 rh)).set (p := ⟨pN, 5, none⟩) (show w.heap.size ≤ pN by omega) (.slice aP nP cP)).set (p := ⟨pN, 6, none⟩) (show w.heap.size ≤ pN by omega) (.slice aQ nQ cQ)).set (p := ⟨pN, 7, none⟩) (show w.heap.size ≤ pN by omega) (.slice a5 0 c5))
          have kZ : mblk ((((((((X3.setCell ⟨pN, 0, none⟩ (.int .i64 (N : Int))).setCell ⟨pN, 1, none⟩ (.int .i64 bl)).setCell ⟨pN, 2, none⟩ (.int .i64 bh)).setCell ⟨pN, 3, none⟩ (.int .i64 rl)).setCell ⟨pN, 4, none⟩ (.int .i64 rh)).setCell ⟨pN, 5, none⟩ (.slice aP nP cP)).setCell ⟨pN, 6, none⟩ (.slice aQ nQ cQ)).setCell ⟨pN, 7, none⟩ (.slice a5 0 c5)) pN = some (.cells (BoC (N : Int) bl bh rl rh (.slice aP nP cP) (.slice aQ nQ cQ) (.slice a5 0 c5)) 27 (0, 0)) := (blk_put (blk_put (blk_put (blk_put (blk_put (blk_put (blk_put (blk_put kN 0 (.int .i64 (N : Int))) 1 (.int .i64 bl)) 2 (.int .i64 bh)) 3 (.int .i64 rl)) 4 (.int .i64 rh)) 5 (.slice aP nP cP)) 6 (.slice aQ nQ cQ)) 7 (.slice a5 0 c5))
          have zkB := hH.2
          rw [← blk_set (X3) ⟨pN, 0, none⟩ (.int .i64 (N : Int)) (q0) (by show q0 ≠ pN; omega), ← blk_set ((X3).setCell ⟨pN, 0, none⟩ (.int .i64 (N : Int))) ⟨pN, 1, none⟩ (.int .i64 bl) (q0) (by show q0 ≠ pN; omega), ← blk_set (((X3).setCell ⟨pN, 0, none⟩ (.int .i64 (N : Int))).setCell ⟨pN, 1, none⟩ (.int .i64 bl)) ⟨pN, 2, none⟩ (.int .i64 bh) (q0) (by show q0 ≠ pN; omega), ← blk_set ((((X3).setCell ⟨pN, 0, none⟩ (.int .i64 (N : Int))).setCell ⟨pN, 1, none⟩ (.int .i64 bl)).setCell ⟨pN, 2, none⟩ (.int .i64 bh)) ⟨pN, 3, none⟩ (.int .i64 rl) (q0) (by show q0 ≠ pN; omega), ← blk_set (((((X3).setCell ⟨pN, 0, none⟩ (.int .i64 (N : Int))).setCell ⟨pN, 1, none⟩ (.int .i64 bl)).setCell ⟨pN, 2, none⟩ (.int .i64 bh)).setCell ⟨pN, 3, none⟩ (.int .i64 rl)) ⟨pN, 4, none⟩ (.int .i64 rh) (q0) (by show q0 ≠ pN; omega), ← blk_set ((((((X3).setCell ⟨pN, 0, none⟩ (.int .i64 (N : Int))).setCell ⟨pN, 1, none⟩ (.int .i64 bl)).setCell ⟨pN, 2, none⟩ (.int .i64 bh)).setCell ⟨pN, 3, none⟩ (.int .i64 rl)).setCell ⟨pN, 4, none⟩ (.int .i64 rh)) ⟨pN, 5, none⟩ (.slice aP nP cP) (q0) (by show q0 ≠ pN; omega), ← blk_set (((((((X3).setCell ⟨pN, 0, none⟩ (.int .i64 (N : Int))).setCell ⟨pN, 1, none⟩ (.int .i64 bl)).setCell ⟨pN, 2, none⟩ (.int .i64 bh)).setCell ⟨pN, 3, none⟩ (.int .i64 rl)).setCell ⟨pN, 4, none⟩ (.int .i64 rh)).setCell ⟨pN, 5, none⟩ (.slice aP nP cP)) ⟨pN, 6, none⟩ (.slice aQ nQ cQ) (q0) (by show q0 ≠ pN; omega), ← blk_set ((((((((X3).setCell ⟨pN, 0, none⟩ (.int .i64 (N : Int))).setCell ⟨pN, 1, none⟩ (.int .i64 bl)).setCell ⟨pN, 2, none⟩ (.int .i64 bh)).setCell ⟨pN, 3, none⟩ (.int .i64 rl)).setCell ⟨pN, 4, none⟩ (.int .i64 rh)).setCell ⟨pN, 5, none⟩ (.slice aP nP cP)).setCell ⟨pN, 6, none⟩ (.slice aQ nQ cQ)) ⟨pN, 7, none⟩ (.slice a5 0 c5) (q0) (by show q0 ≠ pN; omega)] at zkB
          obtain ⟨Z, hZ⟩ : ∃ z, ((((((((X3.setCell ⟨pN, 0, none⟩ (.int .i64 (N : Int))).setCell ⟨pN, 1, none⟩ (.int .i64 bl)).setCell ⟨pN, 2, none⟩ (.int .i64 bh)).setCell ⟨pN, 3, none⟩ (.int .i64 rl)).setCell ⟨pN, 4, none⟩ (.int .i64 rh)).setCell ⟨pN, 5, none⟩ (.slice aP nP cP)).setCell ⟨pN, 6, none⟩ (.slice aQ nQ cQ)).setCell ⟨pN, 7, none⟩ (.slice a5 0 c5)) = z := ⟨_, rfl⟩
          rw [hZ] at UZ kZ zkB 
          try rw [hZ]
          refine hK.out _ _ ?_
          clear hK K hZ zf
          refine doneG (by kernel_rfl) ?_ _
          refine S.nrm_intro ?_
          obtain ⟨v5, hv5⟩ : ∃ v, Value.slice a5 0 c5 = v := ⟨_, rfl⟩
          rw [hv5] at kZ ⊢
          exact HKey.out _ pN vo v5 ⟨UZ, zkB, kZ, ⟨a5, c5, hv5.symm⟩⟩
        · skip
          refine (fun K hK => ?_)
          go_simp
          have u : Up X1 (X1.alloc (.cells #[.int .i64 0, .int .i64 0, .int .i64 0, .int .i64 0, .int .i64 0, .slice none 0 0, .slice none 0 0, .slice none 0 0] 27)) := (Up.refl X1).alloc _
          have kN := blk_new X1 (.cells #[.int .i64 0, .int .i64 0, .int .i64 0, .int .i64 0, .int .i64 0, .slice none 0 0, .slice none 0 0, .slice none 0 0] 27) _ rfl
          have gN : w.heap.size ≤ X1.heap.size := hHeld.1.size
          have dN0 := blk_lt hHeld.2
          obtain ⟨pN, hpN⟩ : ∃ q, X1.heap.size = q := ⟨_, rfl⟩
          obtain ⟨X4, hX⟩ : ∃ z, X1.alloc (.cells #[.int .i64 0, .int .i64 0, .int .i64 0, .int .i64 0, .int .i64 0, .slice none 0 0, .slice none 0 0, .slice none 0 0] 27) = z := ⟨_, rfl⟩
          rw [hX] at u kN
          rw [hpN] at kN gN dN0
          replace ILo := ILo.up u
          try rw [hX]
          try rw [hpN]
          refine hK.out _ _ ⟨hHeld.1.trans u, u.blk hHeld.2⟩ (fun hHeld hCl => ?_)
          clear hK K u hX hpN
          try (dsimp only [List.getElem_toArray, List.getElem_cons_succ, List.getElem_cons_zero]
               simp only [Act.put, List.setIfInBounds_toArray, List.set_cons_zero, List.set_cons_succ])
          refine nextG (i := 10) (by kernel_rfl) rfl (by rfl) hCl (fun K hK => ?_)
          go_simp
          refine ⟨trivial, (callsIn_wide.2 (HN.out _ hHeld.1 _ _ ILo)).mono ?_⟩
          rintro e X5 ⟨⟨a5, n5, c5, rfl, J5⟩, u⟩
          replace ILo := ILo.up u
          replace kN := u.blk kN
          refine hK.out _ _ ⟨hHeld.1.trans u, u.blk hHeld.2⟩ (fun hHeld hCl => ?_)
          clear hK K u
          rw [HKN.out] at J5
          obtain rfl : n5 = 0 := J5.len
          clear J5
          try (dsimp only [List.getElem_toArray, List.getElem_cons_succ, List.getElem_cons_zero]
               simp only [Act.put, List.setIfInBounds_toArray, List.set_cons_zero, List.set_cons_succ])
          have zf := frozB kN
          have hH := hHeld
          clear hCl hHeld
          refine lastG (i := 12) (by kernel_rfl) rfl (by rfl) (by decide) (fun K hK => ?_)
          go_simp
          have UZ := ((((((((hH.1.set (p := ⟨pN, 0, none⟩) (show w.heap.size ≤ pN by omega) (.int .i64 (N : Int))).set (p := ⟨pN, 1, none⟩) (show w.heap.size ≤ pN by omega) (.int .i64 bl)).set (p := ⟨pN, 2, none⟩) (show w.heap.size ≤ pN by omega) (.int .i64 bh)).set (p := ⟨pN, 3, none⟩) (show w.heap.size ≤ pN by omega) (.int .i64 rl)).set (p := ⟨pN, 4, none⟩) (show w.heap.size ≤ pN by omega) (.int .i64 rh)).set (p := ⟨pN, 5, none⟩) (show w.heap.size ≤ pN by omega) (.slice aP nP cP)).set (p := ⟨pN, 6, none⟩) (show w.heap.size ≤ pN by omega) (.slice aQ nQ cQ)).set (p := ⟨pN, 7, none⟩) (show w.heap.size ≤ pN by omega) (.slice a5 0 c5))
          have kZ : mblk ((((((((X5.setCell ⟨pN, 0, none⟩ (.int .i64 (N : Int))).setCell ⟨pN, 1, none⟩ (.int .i64 bl)).setCell ⟨pN, 2, none⟩ (.int .i64 bh)).setCell ⟨pN, 3, none⟩ (.int .i64 rl)).setCell ⟨pN, 4, none⟩ (.int .i64 rh)).setCell ⟨pN, 5, none⟩ (.slice aP nP cP)).setCell ⟨pN, 6, none⟩ (.slice aQ nQ cQ)).setCell ⟨pN, 7, none⟩ (.slice a5 0 c5)) pN = some (.cells (BoC (N : Int) bl bh rl rh (.slice aP nP cP) (.slice aQ nQ cQ) (.slice a5 0 c5)) 27 (0, 0)) := (blk_put (blk_put (blk_put (blk_put (blk_put (blk_put (blk_put (blk_put kN 0 (.int .i64 (N : Int))) 1 (.int .i64 bl)) 2 (.int .i64 bh)) 3 (.int .i64 rl)) 4 (.int .i64 rh)) 5 (.slice aP nP cP)) 6 (.slice aQ nQ cQ)) 7 (.slice a5 0 c5))
          have zkB := hH.2
          rw [← blk_set (X5) ⟨pN, 0, none⟩ (.int .i64 (N : Int)) (q0) (by show q0 ≠ pN; omega), ← blk_set ((X5).setCell ⟨pN, 0, none⟩ (.int .i64 (N : Int))) ⟨pN, 1, none⟩ (.int .i64 bl) (q0) (by show q0 ≠ pN; omega), ← blk_set (((X5).setCell ⟨pN, 0, none⟩ (.int .i64 (N : Int))).setCell ⟨pN, 1, none⟩ (.int .i64 bl)) ⟨pN, 2, none⟩ (.int .i64 bh) (q0) (by show q0 ≠ pN; omega), ← blk_set ((((X5).setCell ⟨pN, 0, none⟩ (.int .i64 (N : Int))).setCell ⟨pN, 1, none⟩ (.int .i64 bl)).setCell ⟨pN, 2, none⟩ (.int .i64 bh)) ⟨pN, 3, none⟩ (.int .i64 rl) (q0) (by show q0 ≠ pN; omega), ← blk_set (((((X5).setCell ⟨pN, 0, none⟩ (.int .i64 (N : Int))).setCell ⟨pN, 1, none⟩ (.int .i64 bl)).setCell ⟨pN, 2, none⟩ (.int .i64 bh)).setCell ⟨pN, 3, none⟩ (.int .i64 rl)) ⟨pN, 4, none⟩ (.int .i64 rh) (q0) (by show q0 ≠ pN; omega), ← blk_set ((((((X5).setCell ⟨pN, 0, none⟩ (.int .i64 (N : Int))).setCell ⟨pN, 1, none⟩ (.int .i64 bl)).setCell ⟨pN, 2, none⟩ (.int .i64 bh)).setCell ⟨pN, 3, none⟩ (.int .i64 rl)).setCell ⟨pN, 4, none⟩ (.int .i64 rh)) ⟨pN, 5, none⟩ (.slice aP nP cP) (q0) (by show q0 ≠ pN; omega), ← blk_set (((((((X5).setCell ⟨pN, 0, none⟩ (.int .i64 (N : Int))).setCell ⟨pN, 1, none⟩ (.int .i64 bl)).setCell ⟨pN, 2, none⟩ (.int .i64 bh)).setCell ⟨pN, 3, none⟩ (.int .i64 rl)).setCell ⟨pN, 4, none⟩ (.int .i64 rh)).setCell ⟨pN, 5, none⟩ (.slice aP nP cP)) ⟨pN, 6, none⟩ (.slice aQ nQ cQ) (q0) (by show q0 ≠ pN; omega), ← blk_set ((((((((X5).setCell ⟨pN, 0, none⟩ (.int .i64 (N : Int))).setCell ⟨pN, 1, none⟩ (.int .i64 bl)).setCell ⟨pN, 2, none⟩ (.int .i64 bh)).setCell ⟨pN, 3, none⟩ (.int .i64 rl)).setCell ⟨pN, 4, none⟩ (.int .i64 rh)).setCell ⟨pN, 5, none⟩ (.slice aP nP cP)).setCell ⟨pN, 6, none⟩ (.slice aQ nQ cQ)) ⟨pN, 7, none⟩ (.slice a5 0 c5) (q0) (by show q0 ≠ pN; omega)] at zkB
          obtain ⟨Z, hZ⟩ : ∃ z, ((((((((X5.setCell ⟨pN, 0, none⟩ (.int .i64 (N : Int))).setCell ⟨pN, 1, none⟩ (.int .i64 bl)).setCell ⟨pN, 2, none⟩ (.int .i64 bh)).setCell ⟨pN, 3, none⟩ (.int .i64 rl)).setCell ⟨pN, 4, none⟩ (.int .i64 rh)).setCell ⟨pN, 5, none⟩ (.slice aP nP cP)).setCell ⟨pN, 6, none⟩ (.slice aQ nQ cQ)).setCell ⟨pN, 7, none⟩ (.slice a5 0 c5)) = z := ⟨_, rfl⟩
          rw [hZ] at UZ kZ zkB 
          try rw [hZ]
          refine hK.out _ _ ?_
          clear hK K hZ zf
          refine doneG (by kernel_rfl) ?_ _
          refine S.nrm_intro ?_
          obtain ⟨v5, hv5⟩ : ∃ v, Value.slice a5 0 c5 = v := ⟨_, rfl⟩
          rw [hv5] at kZ ⊢
          exact HKey.out _ pN vo v5 ⟨UZ, zkB, kZ, ⟨a5, c5, hv5.symm⟩⟩
      · skip
        refine (fun K hK => ?_)
        go_simp
        have u : Up X0 (X0.alloc (.cells #[.int .i64 0, .int .i64 0, .int .i64 0, .int .i64 0, .int .i64 0, .slice none 0 0, .slice none 0 0, .slice none 0 0] 27)) := (Up.refl X0).alloc _
        have kN := blk_new X0 (.cells #[.int .i64 0, .int .i64 0, .int .i64 0, .int .i64 0, .int .i64 0, .slice none 0 0, .slice none 0 0, .slice none 0 0] 27) _ rfl
        have gN : w.heap.size ≤ X0.heap.size := hHeld.1.size
        have dN0 := blk_lt hHeld.2
        obtain ⟨pN, hpN⟩ : ∃ q, X0.heap.size = q := ⟨_, rfl⟩
        obtain ⟨X6, hX⟩ : ∃ z, X0.alloc (.cells #[.int .i64 0, .int .i64 0, .int .i64 0, .int .i64 0, .int .i64 0, .slice none 0 0, .slice none 0 0, .slice none 0 0] 27) = z := ⟨_, rfl⟩
        rw [hX] at u kN
        rw [hpN] at kN gN dN0
        try rw [hX]
        try rw [hpN]
        refine hK.out _ _ ⟨hHeld.1.trans u, u.blk hHeld.2⟩ (fun hHeld hCl => ?_)
        clear hK K u hX hpN
        try (dsimp only [List.getElem_toArray, List.getElem_cons_succ, List.getElem_cons_zero]
             simp only [Act.put, List.setIfInBounds_toArray, List.set_cons_zero, List.set_cons_succ])
        refine nextG (i := 9) (by kernel_rfl) rfl (by rfl) hCl (fun K hK => ?_)
        go_simp
        refine ⟨trivial, (callsIn_wide.2 (HL.out _)).mono ?_⟩
        rintro e X7 ⟨⟨vo, rfl, ILo⟩, u⟩
        replace kN := u.blk kN
        refine hK.out _ _ ⟨hHeld.1.trans u, u.blk hHeld.2⟩ (fun hHeld hCl => ?_)
        clear hK K u
        try (dsimp only [List.getElem_toArray, List.getElem_cons_succ, List.getElem_cons_zero]
             simp only [Act.put, List.setIfInBounds_toArray, List.set_cons_zero, List.set_cons_succ])
        refine nextG (i := 10) (by kernel_rfl) rfl (by rfl) hCl (fun K hK => ?_)
        go_simp
        refine ⟨trivial, (callsIn_wide.2 (HN.out _ hHeld.1 _ _ ILo)).mono ?_⟩
        rintro e X8 ⟨⟨a5, n5, c5, rfl, J5⟩, u⟩
        replace kN := u.blk kN
        replace ILo := ILo.up u
        refine hK.out _ _ ⟨hHeld.1.trans u, u.blk hHeld.2⟩ (fun hHeld hCl => ?_)
        clear hK K u
        rw [HKN.out] at J5
        obtain rfl : n5 = 0 := J5.len
        clear J5
        try (dsimp only [List.getElem_toArray, List.getElem_cons_succ, List.getElem_cons_zero]
             simp only [Act.put, List.setIfInBounds_toArray, List.set_cons_zero, List.set_cons_succ])
        have zf := frozB kN
        have hH := hHeld
        clear hCl hHeld
        refine lastG (i := 12) (by kernel_rfl) rfl (by rfl) (by decide) (fun K hK => ?_)
        go_simp
        have UZ := ((((((((hH.1.set (p := ⟨pN, 0, none⟩) (show w.heap.size ≤ pN by omega) (.int .i64 (N : Int))).set (p := ⟨pN, 1, none⟩) (show w.heap.size ≤ pN by omega) (.int .i64 bl)).set (p := ⟨pN, 2, none⟩) (show w.heap.size ≤ pN by omega) (.int .i64 bh)).set (p := ⟨pN, 3, none⟩) (show w.heap.size ≤ pN by omega) (.int .i64 rl)).set (p := ⟨pN, 4, none⟩) (show w.heap.size ≤ pN by omega) (.int .i64 rh)).set (p := ⟨pN, 5, none⟩) (show w.heap.size ≤ pN by omega) (.slice aP nP cP)).set (p := ⟨pN, 6, none⟩) (show w.heap.size ≤ pN by omega) (.slice aQ nQ cQ)).set (p := ⟨pN, 7, none⟩) (show w.heap.size ≤ pN by omega) (.slice a5 0 c5))
        have kZ : mblk ((((((((X8.setCell ⟨pN, 0, none⟩ (.int .i64 (N : Int))).setCell ⟨pN, 1, none⟩ (.int .i64 bl)).setCell ⟨pN, 2, none⟩ (.int .i64 bh)).setCell ⟨pN, 3, none⟩ (.int .i64 rl)).setCell ⟨pN, 4, none⟩ (.int .i64 rh)).setCell ⟨pN, 5, none⟩ (.slice aP nP cP)).setCell ⟨pN, 6, none⟩ (.slice aQ nQ cQ)).setCell ⟨pN, 7, none⟩ (.slice a5 0 c5)) pN = some (.cells (BoC (N : Int) bl bh rl rh (.slice aP nP cP) (.slice aQ nQ cQ) (.slice a5 0 c5)) 27 (0, 0)) := (blk_put (blk_put (blk_put (blk_put (blk_put (blk_put (blk_put (blk_put kN 0 (.int .i64 (N : Int))) 1 (.int .i64 bl)) 2 (.int .i64 bh)) 3 (.int .i64 rl)) 4 (.int .i64 rh)) 5 (.slice aP nP cP)) 6 (.slice aQ nQ cQ)) 7 (.slice a5 0 c5))
        have zkB := hH.2
        rw [← blk_set (X8) ⟨pN, 0, none⟩ (.int .i64 (N : Int)) (q0) (by show q0 ≠ pN; omega), ← blk_set ((X8).setCell ⟨pN, 0, none⟩ (.int .i64 (N : Int))) ⟨pN, 1, none⟩ (.int .i64 bl) (q0) (by show q0 ≠ pN; omega), ← blk_set (((X8).setCell ⟨pN, 0, none⟩ (.int .i64 (N : Int))).setCell ⟨pN, 1, none⟩ (.int .i64 bl)) ⟨pN, 2, none⟩ (.int .i64 bh) (q0) (by show q0 ≠ pN; omega), ← blk_set ((((X8).setCell ⟨pN, 0, none⟩ (.int .i64 (N : Int))).setCell ⟨pN, 1, none⟩ (.int .i64 bl)).setCell ⟨pN, 2, none⟩ (.int .i64 bh)) ⟨pN, 3, none⟩ (.int .i64 rl) (q0) (by show q0 ≠ pN; omega), ← blk_set (((((X8).setCell ⟨pN, 0, none⟩ (.int .i64 (N : Int))).setCell ⟨pN, 1, none⟩ (.int .i64 bl)).setCell ⟨pN, 2, none⟩ (.int .i64 bh)).setCell ⟨pN, 3, none⟩ (.int .i64 rl)) ⟨pN, 4, none⟩ (.int .i64 rh) (q0) (by show q0 ≠ pN; omega), ← blk_set ((((((X8).setCell ⟨pN, 0, none⟩ (.int .i64 (N : Int))).setCell ⟨pN, 1, none⟩ (.int .i64 bl)).setCell ⟨pN, 2, none⟩ (.int .i64 bh)).setCell ⟨pN, 3, none⟩ (.int .i64 rl)).setCell ⟨pN, 4, none⟩ (.int .i64 rh)) ⟨pN, 5, none⟩ (.slice aP nP cP) (q0) (by show q0 ≠ pN; omega), ← blk_set (((((((X8).setCell ⟨pN, 0, none⟩ (.int .i64 (N : Int))).setCell ⟨pN, 1, none⟩ (.int .i64 bl)).setCell ⟨pN, 2, none⟩ (.int .i64 bh)).setCell ⟨pN, 3, none⟩ (.int .i64 rl)).setCell ⟨pN, 4, none⟩ (.int .i64 rh)).setCell ⟨pN, 5, none⟩ (.slice aP nP cP)) ⟨pN, 6, none⟩ (.slice aQ nQ cQ) (q0) (by show q0 ≠ pN; omega), ← blk_set ((((((((X8).setCell ⟨pN, 0, none⟩ (.int .i64 (N : Int))).setCell ⟨pN, 1, none⟩ (.int .i64 bl)).setCell ⟨pN, 2, none⟩ (.int .i64 bh)).setCell ⟨pN, 3, none⟩ (.int .i64 rl)).setCell ⟨pN, 4, none⟩ (.int .i64 rh)).setCell ⟨pN, 5, none⟩ (.slice aP nP cP)).setCell ⟨pN, 6, none⟩ (.slice aQ nQ cQ)) ⟨pN, 7, none⟩ (.slice a5 0 c5) (q0) (by show q0 ≠ pN; omega)] at zkB
        obtain ⟨Z, hZ⟩ : ∃ z, ((((((((X8.setCell ⟨pN, 0, none⟩ (.int .i64 (N : Int))).setCell ⟨pN, 1, none⟩ (.int .i64 bl)).setCell ⟨pN, 2, none⟩ (.int .i64 bh)).setCell ⟨pN, 3, none⟩ (.int .i64 rl)).setCell ⟨pN, 4, none⟩ (.int .i64 rh)).setCell ⟨pN, 5, none⟩ (.slice aP nP cP)).setCell ⟨pN, 6, none⟩ (.slice aQ nQ cQ)).setCell ⟨pN, 7, none⟩ (.slice a5 0 c5)) = z := ⟨_, rfl⟩
        rw [hZ] at UZ kZ zkB 
        try rw [hZ]
        refine hK.out _ _ ?_
        clear hK K hZ zf
        refine doneG (by kernel_rfl) ?_ _
        refine S.nrm_intro ?_
        obtain ⟨v5, hv5⟩ : ∃ v, Value.slice a5 0 c5 = v := ⟨_, rfl⟩
        rw [hv5] at kZ ⊢
        exact HKey.out _ pN vo v5 ⟨UZ, zkB, kZ, ⟨a5, c5, hv5.symm⟩⟩
    clear U kB
    rintro Z3 pkx v1 v2 ⟨U, kB, kx, ⟨a5, c5, rfl⟩⟩
    skip
    go_wp2_with fail
    go_loopw [6] (fun m wr => ∃ k : Nat, k ≤ N ∧ m = .int .i64 k ∧ Up w wr ∧ mblk wr q0 = some (.cells (BoC (N : Int) bl bh rl rh (.slice aP nP cP) (.slice aQ nQ cQ) (.slice aL ls.length cL)) 27 (0, 0)) ∧ mblk wr pkx = some (.cells (BoC (N : Int) bl bh rl rh (.slice aP nP cP) (.slice aQ nQ cQ) (.slice a5 0 c5)) 27 (0, 0))) (fun m _ => N - (intOf m).toNat)
    case atStart => exact ⟨0, Nat.zero_le _, rfl, U, kB, kx⟩
    case round =>
      clear U kB kx
      obtain ⟨j, hj, rfl, U, kB, kx⟩ := hrel
      by_cases hlt : j < N
      · skip
        skip
        have ew : IntKind.i64.wrap ((j : Int) + 1) = (j : Int) + 1 := IntWalk.i64_in _ (by have := HNN.out; omega)
        have ilt : (j : Int) < (N : Int) := by omega
        have hbB := HBB.out
        have hbR := HBR.out
        have hN := HNN.out
        have b1 := T.mul_bd j (show j < 8 by omega) rl ⟨hbR.1, hbR.2.1⟩
        have b2 := T.mul_bd j (show j < 8 by omega) rh ⟨hbR.2.2.1, hbR.2.2.2⟩
        have z1 : IntKind.i64.wrap ((j : Int) * rl) = (j : Int) * rl := IntWalk.i64_in _ (by omega)
        have z2 : IntKind.i64.wrap ((j : Int) * rh) = (j : Int) * rh := IntWalk.i64_in _ (by omega)
        have z3 : IntKind.i64.wrap (bl + (j : Int) * rl) = bl + (j : Int) * rl := IntWalk.i64_in _ (by omega)
        have z4 : IntKind.i64.wrap (bh + (j : Int) * rh) = bh + (j : Int) * rh := IntWalk.i64_in _ (by omega)
        have CC := Lib.hid (CO.out j hlt)
        clear hlt
        go_wp2_with fail
        refine (CC.out _ U a5 c5).mono ?_
        rintro e x101 ⟨rfl, u102⟩
        replace U := U.trans u102
        replace kB := u102.blk kB
        replace kx := u102.blk kx
        clear u102 CC
        have dkBks := blk_lt kB
        have dkxks := blk_lt kx
        have gks := U.size
        have ks := blk_new x101 (.cells #[.int .i64 (bl + (j : Int) * rl), .int .i64 (bh + (j : Int) * rh)] 23) _ rfl
        replace kB := blk_keep (.cells #[.int .i64 (bl + (j : Int) * rl), .int .i64 (bh + (j : Int) * rh)] 23) kB
        replace kx := blk_keep (.cells #[.int .i64 (bl + (j : Int) * rl), .int .i64 (bh + (j : Int) * rh)] 23) kx
        replace U := U.alloc (.cells #[.int .i64 (bl + (j : Int) * rl), .int .i64 (bh + (j : Int) * rh)] 23)
        obtain ⟨pks, hpks⟩ : ∃ z, x101.heap.size = z := ⟨_, rfl⟩
        obtain ⟨W103, hW103⟩ : ∃ z, x101.alloc (.cells #[.int .i64 (bl + (j : Int) * rl), .int .i64 (bh + (j : Int) * rh)] 23) = z := ⟨_, rfl⟩
        rw [hpks] at ks dkBks dkxks gks
        rw [hW103] at ks U kB kx
        go_wp2_with fail
        clear hpks hW103
        have F105 := Lib.hid (fun w (u : Up W103 w) => cellB (u.blk kB))
        have F106 := Lib.hid (fun w (u : Up W103 w) => cellB (u.blk kx))
        have F107 := Lib.hid (fun w (u : Up W103 w) => cellB (u.blk ks))
        refine (wpIn_wide (n := 5)).1 ?_
        refine wpIn_nrm ?_
        refine T.regionQ (fun w' => Up W103 w') 24 1 hmx (by kernel_rfl) (by kernel_rfl) ((Up.refl W103).drew) (fun hCl => ?_)
        refine T.qT 0 (some 62) ?v17 rfl rfl hCl ?hy17 (fun hCl' => ?_)
        case hy17 => (intro w hSw; refine T.qVal ?_ hSw; (try dsimp only [List.getElem_toArray, List.getElem_cons_succ, List.getElem_cons_zero]); go_simp; try with_reducible rfl)
        simp only [Act.put, List.setIfInBounds_toArray, List.set_cons_zero, List.set_cons_succ]; replace hCl := hCl'; clear hCl'
        refine T.qT 1 (some 63) ?v18 rfl rfl hCl ?hy18 (fun hCl' => ?_)
        case hy18 => (intro w hSw; refine T.qVal ?_ hSw; (try dsimp only [List.getElem_toArray, List.getElem_cons_succ, List.getElem_cons_zero]); go_simp; try with_reducible rfl)
        simp only [Act.put, List.setIfInBounds_toArray, List.set_cons_zero, List.set_cons_succ]; replace hCl := hCl'; clear hCl'
        refine T.qT 2 (some 64) ?v19 rfl rfl hCl ?hy19 (fun hCl' => ?_)
        case hy19 => (intro w hSw; refine T.qVal ?_ hSw; (try dsimp only [List.getElem_toArray, List.getElem_cons_succ, List.getElem_cons_zero]); go_simp; try with_reducible rfl)
        simp only [Act.put, List.setIfInBounds_toArray, List.set_cons_zero, List.set_cons_succ]; replace hCl := hCl'; clear hCl'
        refine T.qT 3 (some 65) ?v20 rfl rfl hCl ?hy20 (fun hCl' => ?_)
        case hy20 => (intro w hSw; refine T.qVal ?_ hSw; (have fF105 := F105.out w hSw; have fF106 := F106.out w hSw; have fF107 := F107.out w hSw); (try dsimp only [List.getElem_toArray, List.getElem_cons_succ, List.getElem_cons_zero]); go_simp; try with_reducible rfl)
        simp only [Act.put, List.setIfInBounds_toArray, List.set_cons_zero, List.set_cons_succ]; replace hCl := hCl'; clear hCl'
        refine T.qT 4 (some 66) ?v21 rfl rfl hCl ?hy21 (fun hCl' => ?_)
        case hy21 => (intro w hSw; refine T.qVal ?_ hSw; (try dsimp only [List.getElem_toArray, List.getElem_cons_succ, List.getElem_cons_zero]); go_simp; try with_reducible rfl)
        simp only [Act.put, List.setIfInBounds_toArray, List.set_cons_zero, List.set_cons_succ]; replace hCl := hCl'; clear hCl'
        refine T.qT 7 (some 69) ?v22 rfl rfl hCl ?hy22 (fun hCl' => ?_)
        case hy22 => (intro w hSw; refine T.qVal ?_ hSw; (try dsimp only [List.getElem_toArray, List.getElem_cons_succ, List.getElem_cons_zero]); go_simp; try with_reducible rfl)
        simp only [Act.put, List.setIfInBounds_toArray, List.set_cons_zero, List.set_cons_succ]; replace hCl := hCl'; clear hCl'
        refine T.qT 8 (some 70) ?v23 rfl rfl hCl ?hy23 (fun hCl' => ?_)
        case hy23 => (intro w hSw; refine T.qVal ?_ hSw; (try dsimp only [List.getElem_toArray, List.getElem_cons_succ, List.getElem_cons_zero]); go_simp; try with_reducible rfl)
        simp only [Act.put, List.setIfInBounds_toArray, List.set_cons_zero, List.set_cons_succ]; replace hCl := hCl'; clear hCl'
        refine T.qT 13 (some 75) ?v24 rfl rfl hCl ?hy24 (fun hCl' => ?_)
        case hy24 => (intro w hSw; refine T.qVal ?_ hSw; (try dsimp only [List.getElem_toArray, List.getElem_cons_succ, List.getElem_cons_zero]); go_simp; try with_reducible rfl)
        simp only [Act.put, List.setIfInBounds_toArray, List.set_cons_zero, List.set_cons_succ]; replace hCl := hCl'; clear hCl'
        refine T.qT 16 (some 78) ?v25 rfl rfl hCl ?hy25 (fun hCl' => ?_)
        case hy25 => (intro w hSw; refine T.qVal ?_ hSw; (try dsimp only [List.getElem_toArray, List.getElem_cons_succ, List.getElem_cons_zero]); go_simp; try with_reducible rfl)
        simp only [Act.put, List.setIfInBounds_toArray, List.set_cons_zero, List.set_cons_succ]; replace hCl := hCl'; clear hCl'
        refine T.qT 17 (some 79) ?v26 rfl rfl hCl ?hy26 (fun hCl' => ?_)
        case hy26 => (intro w hSw; refine T.qVal ?_ hSw; (try dsimp only [List.getElem_toArray, List.getElem_cons_succ, List.getElem_cons_zero]); go_simp; try with_reducible rfl)
        simp only [Act.put, List.setIfInBounds_toArray, List.set_cons_zero, List.set_cons_succ]; replace hCl := hCl'; clear hCl'
        refine T.qT 5 (some 67) ?v27 rfl rfl hCl ?hy27 (fun hCl' => ?_)
        case hy27 => (intro w hSw; refine T.qVal ?_ hSw; (try dsimp only [List.getElem_toArray, List.getElem_cons_succ, List.getElem_cons_zero]); go_simp; try with_reducible rfl)
        simp only [Act.put, List.setIfInBounds_toArray, List.set_cons_zero, List.set_cons_succ]; replace hCl := hCl'; clear hCl'
        refine T.qT 9 (some 71) ?v28 rfl rfl hCl ?hy28 (fun hCl' => ?_)
        case hy28 => (intro w hSw; refine T.qVal ?_ hSw; (try dsimp only [List.getElem_toArray, List.getElem_cons_succ, List.getElem_cons_zero]); go_simp; try with_reducible rfl)
        simp only [Act.put, List.setIfInBounds_toArray, List.set_cons_zero, List.set_cons_succ]; replace hCl := hCl'; clear hCl'
        refine T.qT 14 (some 76) ?v29 rfl rfl hCl ?hy29 (fun hCl' => ?_)
        case hy29 => (intro w hSw; refine T.qVal ?_ hSw; (try dsimp only [List.getElem_toArray, List.getElem_cons_succ, List.getElem_cons_zero]); go_simp; try with_reducible rfl)
        simp only [Act.put, List.setIfInBounds_toArray, List.set_cons_zero, List.set_cons_succ]; replace hCl := hCl'; clear hCl'
        refine T.qT 18 (some 80) ?v30 rfl rfl hCl ?hy30 (fun hCl' => ?_)
        case hy30 => (intro w hSw; refine T.qVal ?_ hSw; (try dsimp only [List.getElem_toArray, List.getElem_cons_succ, List.getElem_cons_zero]); go_simp; try with_reducible rfl)
        simp only [Act.put, List.setIfInBounds_toArray, List.set_cons_zero, List.set_cons_succ]; replace hCl := hCl'; clear hCl'
        refine T.qT 6 (some 68) ?v31 rfl rfl hCl ?hy31 (fun hCl' => ?_)
        case hy31 => (intro w hSw; refine T.qVal ?_ hSw; (have fF105 := F105.out w hSw; have fF106 := F106.out w hSw; have fF107 := F107.out w hSw); (try dsimp only [List.getElem_toArray, List.getElem_cons_succ, List.getElem_cons_zero]); go_simp; try with_reducible rfl)
        simp only [Act.put, List.setIfInBounds_toArray, List.set_cons_zero, List.set_cons_succ]; replace hCl := hCl'; clear hCl'
        refine T.qT 10 (some 72) ?v32 rfl rfl hCl ?hy32 (fun hCl' => ?_)
        case hy32 => (intro w hSw; refine T.qVal ?_ hSw; (have fF105 := F105.out w hSw; have fF106 := F106.out w hSw; have fF107 := F107.out w hSw); (try dsimp only [List.getElem_toArray, List.getElem_cons_succ, List.getElem_cons_zero]); go_simp; try with_reducible rfl)
        simp only [Act.put, List.setIfInBounds_toArray, List.set_cons_zero, List.set_cons_succ]; replace hCl := hCl'; clear hCl'
        refine T.qT 15 (some 77) ?v33 rfl rfl hCl ?hy33 (fun hCl' => ?_)
        case hy33 => (intro w hSw; refine T.qVal ?_ hSw; (have fF105 := F105.out w hSw; have fF106 := F106.out w hSw; have fF107 := F107.out w hSw); (try dsimp only [List.getElem_toArray, List.getElem_cons_succ, List.getElem_cons_zero]); go_simp; try with_reducible rfl)
        simp only [Act.put, List.setIfInBounds_toArray, List.set_cons_zero, List.set_cons_succ]; replace hCl := hCl'; clear hCl'
        refine T.qT 19 (some 81) ?v34 rfl rfl hCl ?hy34 (fun hCl' => ?_)
        case hy34 => (intro w hSw; refine T.qVal ?_ hSw; (have fF105 := F105.out w hSw; have fF106 := F106.out w hSw; have fF107 := F107.out w hSw); (try dsimp only [List.getElem_toArray, List.getElem_cons_succ, List.getElem_cons_zero]); go_simp; try with_reducible rfl)
        simp only [Act.put, List.setIfInBounds_toArray, List.set_cons_zero, List.set_cons_succ]; replace hCl := hCl'; clear hCl'
        refine T.qT 11 (some 73) ?v35 rfl rfl hCl ?hy35 (fun hCl' => ?_)
        case hy35 => (intro w hSw; refine T.qVal ?_ hSw; (try dsimp only [List.getElem_toArray, List.getElem_cons_succ, List.getElem_cons_zero]); go_simp; try with_reducible rfl)
        simp only [Act.put, List.setIfInBounds_toArray, List.set_cons_zero, List.set_cons_succ]; replace hCl := hCl'; clear hCl'
        refine T.qT 20 (some 82) ?v36 rfl rfl hCl ?hy36 (fun hCl' => ?_)
        case hy36 => (intro w hSw; refine T.qVal ?_ hSw; (try dsimp only [List.getElem_toArray, List.getElem_cons_succ, List.getElem_cons_zero]); go_simp; try with_reducible rfl)
        simp only [Act.put, List.setIfInBounds_toArray, List.set_cons_zero, List.set_cons_succ]; replace hCl := hCl'; clear hCl'
        refine T.qT 12 (some 74) ?v37 rfl rfl hCl ?hy37 (fun hCl' => ?_)
        case hy37 => (intro w hSw; refine T.qVal ?_ hSw; (try dsimp only [List.getElem_toArray, List.getElem_cons_succ, List.getElem_cons_zero]); go_simp; try with_reducible rfl)
        simp only [Act.put, List.setIfInBounds_toArray, List.set_cons_zero, List.set_cons_succ]; replace hCl := hCl'; clear hCl'
        refine T.qT 21 (some 83) ?v38 rfl rfl hCl ?hy38 (fun hCl' => ?_)
        case hy38 => (intro w hSw; refine T.qVal ?_ hSw; (try dsimp only [List.getElem_toArray, List.getElem_cons_succ, List.getElem_cons_zero]); go_simp; try with_reducible rfl)
        simp only [Act.put, List.setIfInBounds_toArray, List.set_cons_zero, List.set_cons_succ]; replace hCl := hCl'; clear hCl'
        refine T.qT 22 (some 84) ((SpV (bl + (j : Int) * rl) (bh + (j : Int) * rh))) rfl rfl hCl ?hy39 (fun hCl' => ?_)
        case hy39 => (intro w hSw; (have fF105 := F105.out w hSw; have fF106 := F106.out w hSw; have fF107 := F107.out w hSw); (try dsimp only [List.getElem_toArray, List.getElem_cons_succ, List.getElem_cons_zero]); go_simp; (refine (callsIn_wide.2 (HTo.out _ _ w)).mono ?_; rintro e w3 ⟨rfl, u3⟩; exact ⟨rfl, hSw.trans u3⟩))
        simp only [Act.put, List.setIfInBounds_toArray, List.set_cons_zero, List.set_cons_succ]
        replace hCl := hCl'; clear hCl'
        refine T.qT 23 (some 85) ?v40 rfl rfl hCl ?hy40 (fun hCl' => ?_)
        case hy40 => (intro w hSw; refine T.qVal ?_ hSw; (try dsimp only [List.getElem_toArray, List.getElem_cons_succ, List.getElem_cons_zero]); go_simp; try with_reducible rfl)
        simp only [Act.put, List.setIfInBounds_toArray, List.set_cons_zero, List.set_cons_succ]; replace hCl := hCl'; clear hCl'
        refine T.tail_intro (by kernel_rfl) (fun Y104 hY104 => ?_)
        replace U := U.trans hY104
        replace kB := hY104.blk kB
        replace kx := hY104.blk kx
        replace ks := hY104.blk ks
        clear F105 F106 F107 hY104
        refine lastG (i := 24) (by kernel_rfl) rfl (by rfl) (by decide) (fun K hK => ?_)
        go_simp
        refine hK.out _ _ ?_
        clear hK K
        refine doneG (by kernel_rfl) ?_ _
        refine S.nrm_intro ?_
        go_wp2_with fail
        go_roundw
        case rel => exact ⟨j + 1, by omega, by go_num, U, kB, kx⟩
        case measure => (simp only [intOf]; omega)
      · skip
        skip
        have ilt : ¬ (j : Int) < (N : Int) := by omega
        clear kx CO HTo HL HKN hlt hj
        go_wp2_with fail
        refine (HId.out _ U).mono ?_
        rintro e x0 ⟨hcase, u⟩
        replace U := U.trans u
        replace kB := u.blk kB
        clear u HId
        rcases hcase with ⟨rfl, hno⟩ | ⟨hyes, v, s, rfl, IV, hs⟩
        · skip
          go_wp2_with fail
          refine (HW.out _).mono ?_
          rintro e x301 ⟨rfl, u302⟩
          replace U := U.trans u302
          replace kB := u302.blk kB
          clear u302 
          go_wp2
          go_ret
          exact ⟨rfl, U⟩
        · skip
          obtain ⟨y0, hy0⟩ := hyes
          have hx : ∃ y, T.Tr N bl bh rl rh ps qs ls y := ⟨y0, (T.sat_tru (T.valid_bok HV.out)).1 hy0⟩
          clear hy0
          obtain ⟨LI, hLI⟩ : ∃ l, T.lst s 10 = l := ⟨_, rfl⟩
          have hmem : ∀ k : Nat, (k : Int) ∈ LI ↔ k < 10 ∧ s k = true := fun k => by rw [← hLI]; exact T.mem_lst s 10
          have hclm : T.clm ls.length 0 LI = true := by
            have e : T.lst s (ls.length + (10 - ls.length)) = T.lst s ls.length := T.lst_hi (fun c hc => by
              rw [Bool.eq_false_iff]
              intro q
              have := ((hs c).1 q).1
              omega) _
            rw [show ls.length + (10 - ls.length) = 10 by omega, hLI] at e
            rw [e]
            exact T.clm_lst s _ _ (Nat.le_refl _)
          have h0l : ls.length = 0 → LI.length = 0 := fun h0 => by
            rw [← hLI, T.lst_cnt]
            unfold T.cnt
            rw [List.length_eq_zero_iff, List.filter_eq_nil_iff]
            intro c _ q
            have := ((hs c).1 q).1
            omega
          rw [hLI] at IV
          obtain ⟨ai, ci, rfl, _, _, _⟩ := id IV.is
          clear hLI
          by_cases hl0 : ls.length = 0
          · skip
            skip
            have hL0 := h0l hl0
            have d1 : ((ls.length : Int) == 0) = true := by rw [beq_iff_eq]; omega
            have d2 : ((LI.length : Int) == 0) = true := by rw [beq_iff_eq]; omega
            clear hs hmem hclm h0l hx
            go_wp2_with fail
            refine (HW.out _).mono ?_
            rintro e x501 ⟨rfl, u502⟩
            replace U := U.trans u502
            replace kB := u502.blk kB
            clear u502 
            go_wp2
            go_ret
            exact ⟨rfl, U⟩
          · skip
            skip
            have d1 : ((ls.length : Int) == 0) = false := by rw [beq_eq_false_iff_ne]; omega
            have HRk := Lib.hid (fun w => B_Rest_any z0 (ls.length : Int) w (by omega) (by omega))
            have ak := Int.emod_nonneg z0 (b := (ls.length : Int)) (by omega)
            have bk := Int.emod_lt_of_pos z0 (b := (ls.length : Int)) (by omega)
            generalize z0 % (ls.length : Int) = k at *
            obtain ⟨k, rfl⟩ := Int.eq_ofNat_of_zero_le ak
            have hik := T.idle_iff HV.out hx (k := k)
            have hv' := T.kpt_valid HV.out [(k : Int)]
            have hx' : ∃ y, T.Tr N bl bh rl rh ps qs (T.kpt [(k : Int)] ls ls.length) y := by
              obtain ⟨y, hy⟩ := hx
              exact ⟨y, T.tr_mk hy fun q hq => by
                obtain ⟨j, hj, _, rfl⟩ := T.mem_kpt.1 hq
                exact hy.lok j hj rfl⟩
            have C1 := Lib.hid (fun (j : Nat) (hj : j < N) w' (u : Up w w') => Offset_tells (n := (j : Int)) HV.out ⟨by omega, by omega⟩ (T.tl_tells HV.out hx T.al_0 (T.al_night ⟨by omega, by omega⟩)) (HI.out _ u) (HJ.out _ u) (HK.out _ u))
            have C2 := Lib.hid (fun (j : Nat) (hj : j < ps.length) w' (u : Up w w') => Person_tells (n := (j : Int)) HV.out ⟨by omega, by omega⟩ (T.tl_tells HV.out hx (T.al_per ⟨by omega, by omega⟩) T.al_0) (HI.out _ u) (HJ.out _ u) (HK.out _ u))
            have C3 := Lib.hid (fun (j : Nat) (hj : j < qs.length) w' (u : Up w w') => Path_tells (n := (j : Int)) HV.out ⟨by omega, by omega⟩ (T.tl_tells HV.out hx T.al_0 (T.al_pth ⟨by omega, by omega⟩)) (HI.out _ u) (HJ.out _ u) (HK.out _ u))
            have D1 := Lib.hid (fun (j : Nat) (hj : j < N) w' (u : Up w w') a n c (J' : Lks w' (.slice a n c) (T.kpt [(k : Int)] ls ls.length)) => Offset_tells (n := (j : Int)) hv' ⟨by omega, by omega⟩ (T.tl_tells hv' hx' T.al_0 (T.al_night ⟨by omega, by omega⟩)) (HI.out _ u) (HJ.out _ u) J')
            have D2 := Lib.hid (fun (j : Nat) (hj : j < ps.length) w' (u : Up w w') a n c (J' : Lks w' (.slice a n c) (T.kpt [(k : Int)] ls ls.length)) => Person_tells (n := (j : Int)) hv' ⟨by omega, by omega⟩ (T.tl_tells hv' hx' (T.al_per ⟨by omega, by omega⟩) T.al_0) (HI.out _ u) (HJ.out _ u) J')
            have D3 := Lib.hid (fun (j : Nat) (hj : j < qs.length) w' (u : Up w w') a n c (J' : Lks w' (.slice a n c) (T.kpt [(k : Int)] ls ls.length)) => Path_tells (n := (j : Int)) hv' ⟨by omega, by omega⟩ (T.tl_tells hv' hx' T.al_0 (T.al_pth ⟨by omega, by omega⟩)) (HI.out _ u) (HJ.out _ u) J')
            have C4 := Lib.hid (fun w' (u : Up w w') => Worst_wr HV.out hx (HI.out _ u) (HJ.out _ u) (HK.out _ u))
            have D4 := Lib.hid (fun w' (u : Up w w') a n c (J' : Lks w' (.slice a n c) (T.kpt [(k : Int)] ls ls.length)) => Worst_wr hv' hx' (HI.out _ u) (HJ.out _ u) J')
            try unfold T.Tr at hik
            try unfold T.Tr at C1
            try unfold T.Tr at C2
            try unfold T.Tr at C3
            try unfold T.Tr at C4
            try unfold T.Tr at D1
            try unfold T.Tr at D2
            try unfold T.Tr at D3
            try unfold T.Tr at D4
            obtain ⟨P, hP⟩ : ∃ P, T.Tru N bl bh rl rh ps qs ls T.o0 = P := ⟨_, rfl⟩
            obtain ⟨P', hP'⟩ : ∃ P', T.Tru N bl bh rl rh ps qs (T.kpt [(k : Int)] ls ls.length) T.o0 = P' := ⟨_, rfl⟩
            rw [hP, hP'] at hik
            rw [hP] at C1 C2 C3 C4
            rw [hP'] at D1 D2 D3 D4
            have hsk : s k = true ↔ (∀ j, j < N → T.tl P 0 (1 + (j : Int)) = T.tl P' 0 (1 + (j : Int))) ∧ (∀ j, j < ps.length → T.tl P (9 + (j : Int)) 0 = T.tl P' (9 + (j : Int)) 0) ∧ ∀ j, j < qs.length → T.tl P 0 (13 + (j : Int)) = T.tl P' 0 (13 + (j : Int)) := by
              rw [← hik]
              exact (hs k).trans ⟨fun q => q.2, fun q => ⟨by omega, q⟩⟩
            have hkm := hmem k
            have HSK := Lib.hid hsk
            have HKM := Lib.hid hkm
            have HKL := Lib.hid (show k < ls.length by omega)
            have HCl := Lib.hid hclm
            clear hs hsk hkm hik hmem hclm h0l hP hP' hx hx' hv' hl0 ak bk
            go_wp2_with fail
            refine (HRk.out _).mono ?_
            rintro e x601 ⟨rfl, rfl⟩
            clear HRk
            have ii0 := kB
            have dkBki := blk_lt kB
            have gki := U.size
            have ki := blk_new x0 (.cells #[.int .i64 (k : Int)] 3) _ rfl
            replace kB := blk_keep (.cells #[.int .i64 (k : Int)] 3) kB
            replace U := U.alloc (.cells #[.int .i64 (k : Int)] 3)
            replace IV := IV.up ((Up.refl x0).alloc (.cells #[.int .i64 (k : Int)] 3))
            go_wp2_with fail
            obtain ⟨pki, hpki⟩ : ∃ z, x0.heap.size = z := ⟨_, rfl⟩
            obtain ⟨W602, hW602⟩ : ∃ z, x0.alloc (.cells #[.int .i64 (k : Int)] 3) = z := ⟨_, rfl⟩
            rw [hpki] at ki dkBki gki
            rw [hW602] at ki U kB IV
            rw [hW602, hpki]
            skip
            clear ii0
            skip
            refine (HN.out _ U _ _ (ints1 ki)).mono ?_
            rintro e x9 ⟨⟨a9, n9, c9, rfl, J9⟩, u⟩
            replace U := U.trans u
            replace kB := u.blk kB
            replace ki := u.blk ki
            replace IV := IV.up u
            clear u HN
            have dkBky := blk_lt kB
            have dkiky := blk_lt ki
            have gky := U.size
            have ky := blk_new x9 (.cells (BoC (N : Int) bl bh rl rh (.slice aP nP cP) (.slice aQ nQ cQ) (.slice a9 n9 c9)) 27) _ rfl
            replace kB := blk_keep (.cells (BoC (N : Int) bl bh rl rh (.slice aP nP cP) (.slice aQ nQ cQ) (.slice a9 n9 c9)) 27) kB
            replace ki := blk_keep (.cells (BoC (N : Int) bl bh rl rh (.slice aP nP cP) (.slice aQ nQ cQ) (.slice a9 n9 c9)) 27) ki
            replace U := U.alloc (.cells (BoC (N : Int) bl bh rl rh (.slice aP nP cP) (.slice aQ nQ cQ) (.slice a9 n9 c9)) 27)
            replace IV := IV.up ((Up.refl x9).alloc (.cells (BoC (N : Int) bl bh rl rh (.slice aP nP cP) (.slice aQ nQ cQ) (.slice a9 n9 c9)) 27))
            replace J9 := J9.up ((Up.refl x9).alloc (.cells (BoC (N : Int) bl bh rl rh (.slice aP nP cP) (.slice aQ nQ cQ) (.slice a9 n9 c9)) 27))
            go_wp2_with fail
            obtain ⟨pky, hpky⟩ : ∃ z, x9.heap.size = z := ⟨_, rfl⟩
            obtain ⟨W603, hW603⟩ : ∃ z, x9.alloc (.cells (BoC (N : Int) bl bh rl rh (.slice aP nP cP) (.slice aQ nQ cQ) (.slice a9 n9 c9)) 27) = z := ⟨_, rfl⟩
            rw [hpky] at ky dkBky dkiky gky
            rw [hW603] at ky U kB ki IV J9
            rw [hW603, hpky]
            skip
            clear ki
            skip
            obtain ⟨f1, hf1⟩ : ∃ f : Nat → Bool, (fun (j : Nat) => @decide (T.tl P 0 (1 + (j : Int)) = T.tl P' 0 (1 + (j : Int))) (Classical.propDecidable _)) = f := ⟨_, rfl⟩
            have HF1 := Lib.hid (show ∀ j : Nat, f1 j = true ↔ T.tl P 0 (1 + (j : Int)) = T.tl P' 0 (1 + (j : Int)) from fun j => by rw [← hf1]; exact @decide_eq_true_iff _ (Classical.propDecidable _))
            clear hf1
            go_loopw [13, 14] (fun b i wr => T.Lp f1 true N b i ∧ Up w wr ∧ mblk wr q0 = some (.cells (BoC (N : Int) bl bh rl rh (.slice aP nP cP) (.slice aQ nQ cQ) (.slice aL ls.length cL)) 27 (0, 0)) ∧ mblk wr pky = some (.cells (BoC (N : Int) bl bh rl rh (.slice aP nP cP) (.slice aQ nQ cQ) (.slice a9 n9 c9)) 27 (0, 0)) ∧ Ints wr (.slice ai LI.length ci) LI ∧ Lks wr (.slice a9 n9 c9) (T.kpt [(k : Int)] ls ls.length)) (fun _ i _ => N - (intOf i).toNat)
            case atStart => exact ⟨⟨0, _, Nat.zero_le _, by simp [T.allB], rfl, rfl⟩, U, kB, ky, IV, J9⟩
            case round =>
              clear U kB ky IV J9
              obtain ⟨⟨j, bb, hj, hb, rfl, rfl⟩, U, kB, ky, IV, J9⟩ := hrel
              have HB := Lib.hid hb
              clear hb
              by_cases hlt : j < N
              · skip
                skip
                have ew : IntKind.i64.wrap ((j : Int) + 1) = (j : Int) + 1 := IntWalk.i64_in _ (by have := HNN.out; have := HNP.out; have := HNQ.out; omega)
                have ilt : (j : Int) < (N : Nat) := by omega
                have HC := C1.out j (by have := HNP.out; have := HNQ.out; omega)
                have HD := D1.out j (by have := HNP.out; have := HNQ.out; omega)
                have hfj := HF1.out j
                obtain ⟨⟨l1, h1⟩, e1⟩ : ∃ p, T.tl P 0 (1 + (j : Int)) = p := ⟨_, rfl⟩
                obtain ⟨⟨l2, h2⟩, e2⟩ : ∃ p, T.tl P' 0 (1 + (j : Int)) = p := ⟨_, rfl⟩
                rw [e1] at HC hfj
                rw [e2] at HD hfj
                dsimp only at HC HD
                have CC := Lib.hid HC
                have DD := Lib.hid HD
                have HS := Lib.hid (T.allB_step (f := f1) (j := j))
                clear HC HD e1 e2 hlt
                go_wp2_with fail
                refine (CC.out _ U).mono ?_
                rintro e x1001 ⟨rfl, u1002⟩
                replace U := U.trans u1002
                replace kB := u1002.blk kB
                replace ky := u1002.blk ky
                replace IV := IV.up u1002
                replace J9 := J9.up u1002
                clear u1002 CC
                have dkBks := blk_lt kB
                have dkyks := blk_lt ky
                have gks := U.size
                have ks := blk_new x1001 (.cells #[.int .i64 l1, .int .i64 h1] 23) _ rfl
                replace kB := blk_keep (.cells #[.int .i64 l1, .int .i64 h1] 23) kB
                replace ky := blk_keep (.cells #[.int .i64 l1, .int .i64 h1] 23) ky
                replace U := U.alloc (.cells #[.int .i64 l1, .int .i64 h1] 23)
                replace IV := IV.up ((Up.refl x1001).alloc (.cells #[.int .i64 l1, .int .i64 h1] 23))
                replace J9 := J9.up ((Up.refl x1001).alloc (.cells #[.int .i64 l1, .int .i64 h1] 23))
                obtain ⟨pks, hpks⟩ : ∃ z, x1001.heap.size = z := ⟨_, rfl⟩
                obtain ⟨W1003, hW1003⟩ : ∃ z, x1001.alloc (.cells #[.int .i64 l1, .int .i64 h1] 23) = z := ⟨_, rfl⟩
                rw [hpks] at ks dkBks dkyks gks
                rw [hW1003] at ks U kB ky IV J9
                go_wp2_with fail
                clear hpks hW1003
                refine (DD.out _ U _ _ _ J9).mono ?_
                rintro e x1004 ⟨rfl, u1005⟩
                replace U := U.trans u1005
                replace kB := u1005.blk kB
                replace ky := u1005.blk ky
                replace ks := u1005.blk ks
                replace IV := IV.up u1005
                replace J9 := J9.up u1005
                clear u1005 DD
                have dkBkt := blk_lt kB
                have dkykt := blk_lt ky
                have dkskt := blk_lt ks
                have gkt := U.size
                have kt := blk_new x1004 (.cells #[.int .i64 l2, .int .i64 h2] 23) _ rfl
                replace kB := blk_keep (.cells #[.int .i64 l2, .int .i64 h2] 23) kB
                replace ky := blk_keep (.cells #[.int .i64 l2, .int .i64 h2] 23) ky
                replace ks := blk_keep (.cells #[.int .i64 l2, .int .i64 h2] 23) ks
                replace U := U.alloc (.cells #[.int .i64 l2, .int .i64 h2] 23)
                replace IV := IV.up ((Up.refl x1004).alloc (.cells #[.int .i64 l2, .int .i64 h2] 23))
                replace J9 := J9.up ((Up.refl x1004).alloc (.cells #[.int .i64 l2, .int .i64 h2] 23))
                obtain ⟨pkt, hpkt⟩ : ∃ z, x1004.heap.size = z := ⟨_, rfl⟩
                obtain ⟨W1006, hW1006⟩ : ∃ z, x1004.alloc (.cells #[.int .i64 l2, .int .i64 h2] 23) = z := ⟨_, rfl⟩
                rw [hpkt] at kt dkBkt dkykt dkskt gkt
                rw [hW1006] at kt U kB ky ks IV J9
                skip
                cases bb with
                | false =>
                  skip
                  have HB2 := Lib.hid (show false = (true && T.allB f1 (j + 1)) by rw [HS.out, ← Bool.and_assoc, ← HB.out]; rfl)
                  clear HB hfj
                  go_wp2_with fail
                  go_roundw
                  case rel => exact ⟨⟨j + 1, false, by omega, HB2.out, rfl, by go_num⟩, U, kB, ky, IV, J9⟩
                  case measure => (simp only [intOf]; omega)
                | true =>
                  by_cases hne : (l1, h1) = (l2, h2)
                  · skip
                    have hfj2 := hfj.2 hne
                    injection hne with n1 n2
                    subst n1 n2
                    have HB2 := Lib.hid (show true = (true && T.allB f1 (j + 1)) by rw [HS.out, ← Bool.and_assoc, ← HB.out]; rw [hfj2]; rfl)
                    clear HB hfj hfj2
                    go_wp2_with fail
                    go_roundw
                    case rel => exact ⟨⟨j + 1, true, by omega, HB2.out, rfl, by go_num⟩, U, kB, ky, IV, J9⟩
                    case measure => (simp only [intOf]; omega)
                  · skip
                    have hfj2 : f1 j = false := by rw [Bool.eq_false_iff]; exact fun q => hne (hfj.1 q)
                    have hd := S.span_ne hne
                    clear hne
                    rcases hd with hd | ⟨hd, hd2⟩
                    · skip
                      skip
                      have HB2 := Lib.hid (show false = (true && T.allB f1 (j + 1)) by rw [HS.out, ← Bool.and_assoc, ← HB.out]; rw [hfj2]; rfl)
                      clear HB hfj hfj2
                      go_wp2_with fail
                      go_roundw
                      case rel => exact ⟨⟨j + 1, false, by omega, HB2.out, rfl, by go_num⟩, U, kB, ky, IV, J9⟩
                      case measure => (simp only [intOf]; omega)
                    · skip
                      skip
                      have HB2 := Lib.hid (show false = (true && T.allB f1 (j + 1)) by rw [HS.out, ← Bool.and_assoc, ← HB.out]; rw [hfj2]; rfl)
                      clear HB hfj hfj2
                      go_wp2_with fail
                      go_roundw
                      case rel => exact ⟨⟨j + 1, false, by omega, HB2.out, rfl, by go_num⟩, U, kB, ky, IV, J9⟩
                      case measure => (simp only [intOf]; omega)
              · skip
                obtain rfl : N = j := by omega
                have ilt : ¬ ((N : Nat) : Int) < (N : Nat) := by omega
                clear hlt hj C1 D1
                have HB1 := HB
                clear HB
                obtain ⟨s1, rfl⟩ : ∃ b, b = bb := ⟨_, rfl⟩
                go_wp2_with fail
                skip
                obtain ⟨f2, hf2⟩ : ∃ f : Nat → Bool, (fun (j : Nat) => @decide (T.tl P (9 + (j : Int)) 0 = T.tl P' (9 + (j : Int)) 0) (Classical.propDecidable _)) = f := ⟨_, rfl⟩
                have HF2 := Lib.hid (show ∀ j : Nat, f2 j = true ↔ T.tl P (9 + (j : Int)) 0 = T.tl P' (9 + (j : Int)) 0 from fun j => by rw [← hf2]; exact @decide_eq_true_iff _ (Classical.propDecidable _))
                clear hf2
                go_loopw [13, 19] (fun b i wr => T.Lp f2 s1 nP b i ∧ Up w wr ∧ mblk wr q0 = some (.cells (BoC (N : Int) bl bh rl rh (.slice aP nP cP) (.slice aQ nQ cQ) (.slice aL ls.length cL)) 27 (0, 0)) ∧ mblk wr pky = some (.cells (BoC (N : Int) bl bh rl rh (.slice aP nP cP) (.slice aQ nQ cQ) (.slice a9 n9 c9)) 27 (0, 0)) ∧ Ints wr (.slice ai LI.length ci) LI ∧ Lks wr (.slice a9 n9 c9) (T.kpt [(k : Int)] ls ls.length)) (fun _ i _ => nP - (intOf i).toNat)
                case atStart => exact ⟨⟨0, _, Nat.zero_le _, by simp [T.allB], rfl, rfl⟩, U, kB, ky, IV, J9⟩
                case round =>
                  clear U kB ky IV J9
                  obtain ⟨⟨j, bb, hj, hb, rfl, rfl⟩, U, kB, ky, IV, J9⟩ := hrel
                  have HB := Lib.hid hb
                  clear hb
                  by_cases hlt : j < nP
                  · skip
                    skip
                    have ew : IntKind.i64.wrap ((j : Int) + 1) = (j : Int) + 1 := IntWalk.i64_in _ (by have := HNN.out; have := HNP.out; have := HNQ.out; omega)
                    have ilt : (j : Int) < (nP : Nat) := by omega
                    have HC := C2.out j (by have := HNP.out; have := HNQ.out; omega)
                    have HD := D2.out j (by have := HNP.out; have := HNQ.out; omega)
                    have hfj := HF2.out j
                    obtain ⟨⟨l1, h1⟩, e1⟩ : ∃ p, T.tl P (9 + (j : Int)) 0 = p := ⟨_, rfl⟩
                    obtain ⟨⟨l2, h2⟩, e2⟩ : ∃ p, T.tl P' (9 + (j : Int)) 0 = p := ⟨_, rfl⟩
                    rw [e1] at HC hfj
                    rw [e2] at HD hfj
                    dsimp only at HC HD
                    have CC := Lib.hid HC
                    have DD := Lib.hid HD
                    have HS := Lib.hid (T.allB_step (f := f2) (j := j))
                    clear HC HD e1 e2 hlt
                    go_wp2_with fail
                    refine (CC.out _ U).mono ?_
                    rintro e x2001 ⟨rfl, u2002⟩
                    replace U := U.trans u2002
                    replace kB := u2002.blk kB
                    replace ky := u2002.blk ky
                    replace IV := IV.up u2002
                    replace J9 := J9.up u2002
                    clear u2002 CC
                    have dkBks := blk_lt kB
                    have dkyks := blk_lt ky
                    have gks := U.size
                    have ks := blk_new x2001 (.cells #[.int .i64 l1, .int .i64 h1] 23) _ rfl
                    replace kB := blk_keep (.cells #[.int .i64 l1, .int .i64 h1] 23) kB
                    replace ky := blk_keep (.cells #[.int .i64 l1, .int .i64 h1] 23) ky
                    replace U := U.alloc (.cells #[.int .i64 l1, .int .i64 h1] 23)
                    replace IV := IV.up ((Up.refl x2001).alloc (.cells #[.int .i64 l1, .int .i64 h1] 23))
                    replace J9 := J9.up ((Up.refl x2001).alloc (.cells #[.int .i64 l1, .int .i64 h1] 23))
                    obtain ⟨pks, hpks⟩ : ∃ z, x2001.heap.size = z := ⟨_, rfl⟩
                    obtain ⟨W2003, hW2003⟩ : ∃ z, x2001.alloc (.cells #[.int .i64 l1, .int .i64 h1] 23) = z := ⟨_, rfl⟩
                    rw [hpks] at ks dkBks dkyks gks
                    rw [hW2003] at ks U kB ky IV J9
                    go_wp2_with fail
                    clear hpks hW2003
                    refine (DD.out _ U _ _ _ J9).mono ?_
                    rintro e x2004 ⟨rfl, u2005⟩
                    replace U := U.trans u2005
                    replace kB := u2005.blk kB
                    replace ky := u2005.blk ky
                    replace ks := u2005.blk ks
                    replace IV := IV.up u2005
                    replace J9 := J9.up u2005
                    clear u2005 DD
                    have dkBkt := blk_lt kB
                    have dkykt := blk_lt ky
                    have dkskt := blk_lt ks
                    have gkt := U.size
                    have kt := blk_new x2004 (.cells #[.int .i64 l2, .int .i64 h2] 23) _ rfl
                    replace kB := blk_keep (.cells #[.int .i64 l2, .int .i64 h2] 23) kB
                    replace ky := blk_keep (.cells #[.int .i64 l2, .int .i64 h2] 23) ky
                    replace ks := blk_keep (.cells #[.int .i64 l2, .int .i64 h2] 23) ks
                    replace U := U.alloc (.cells #[.int .i64 l2, .int .i64 h2] 23)
                    replace IV := IV.up ((Up.refl x2004).alloc (.cells #[.int .i64 l2, .int .i64 h2] 23))
                    replace J9 := J9.up ((Up.refl x2004).alloc (.cells #[.int .i64 l2, .int .i64 h2] 23))
                    obtain ⟨pkt, hpkt⟩ : ∃ z, x2004.heap.size = z := ⟨_, rfl⟩
                    obtain ⟨W2006, hW2006⟩ : ∃ z, x2004.alloc (.cells #[.int .i64 l2, .int .i64 h2] 23) = z := ⟨_, rfl⟩
                    rw [hpkt] at kt dkBkt dkykt dkskt gkt
                    rw [hW2006] at kt U kB ky ks IV J9
                    skip
                    cases bb with
                    | false =>
                      skip
                      have HB2 := Lib.hid (show false = (s1 && T.allB f2 (j + 1)) by rw [HS.out, ← Bool.and_assoc, ← HB.out]; rfl)
                      clear HB hfj
                      go_wp2_with fail
                      go_roundw
                      case rel => exact ⟨⟨j + 1, false, by omega, HB2.out, rfl, by go_num⟩, U, kB, ky, IV, J9⟩
                      case measure => (simp only [intOf]; omega)
                    | true =>
                      by_cases hne : (l1, h1) = (l2, h2)
                      · skip
                        have hfj2 := hfj.2 hne
                        injection hne with n1 n2
                        subst n1 n2
                        have HB2 := Lib.hid (show true = (s1 && T.allB f2 (j + 1)) by rw [HS.out, ← Bool.and_assoc, ← HB.out]; rw [hfj2]; rfl)
                        clear HB hfj hfj2
                        go_wp2_with fail
                        go_roundw
                        case rel => exact ⟨⟨j + 1, true, by omega, HB2.out, rfl, by go_num⟩, U, kB, ky, IV, J9⟩
                        case measure => (simp only [intOf]; omega)
                      · skip
                        have hfj2 : f2 j = false := by rw [Bool.eq_false_iff]; exact fun q => hne (hfj.1 q)
                        have hd := S.span_ne hne
                        clear hne
                        rcases hd with hd | ⟨hd, hd2⟩
                        · skip
                          skip
                          have HB2 := Lib.hid (show false = (s1 && T.allB f2 (j + 1)) by rw [HS.out, ← Bool.and_assoc, ← HB.out]; rw [hfj2]; rfl)
                          clear HB hfj hfj2
                          go_wp2_with fail
                          go_roundw
                          case rel => exact ⟨⟨j + 1, false, by omega, HB2.out, rfl, by go_num⟩, U, kB, ky, IV, J9⟩
                          case measure => (simp only [intOf]; omega)
                        · skip
                          skip
                          have HB2 := Lib.hid (show false = (s1 && T.allB f2 (j + 1)) by rw [HS.out, ← Bool.and_assoc, ← HB.out]; rw [hfj2]; rfl)
                          clear HB hfj hfj2
                          go_wp2_with fail
                          go_roundw
                          case rel => exact ⟨⟨j + 1, false, by omega, HB2.out, rfl, by go_num⟩, U, kB, ky, IV, J9⟩
                          case measure => (simp only [intOf]; omega)
                  · skip
                    obtain rfl : nP = j := by omega
                    have ilt : ¬ ((nP : Nat) : Int) < (nP : Nat) := by omega
                    clear hlt hj C2 D2
                    have HB2 := HB
                    clear HB
                    obtain ⟨s2, rfl⟩ : ∃ b, b = bb := ⟨_, rfl⟩
                    go_wp2_with fail
                    skip
                    obtain ⟨f3, hf3⟩ : ∃ f : Nat → Bool, (fun (j : Nat) => @decide (T.tl P 0 (13 + (j : Int)) = T.tl P' 0 (13 + (j : Int))) (Classical.propDecidable _)) = f := ⟨_, rfl⟩
                    have HF3 := Lib.hid (show ∀ j : Nat, f3 j = true ↔ T.tl P 0 (13 + (j : Int)) = T.tl P' 0 (13 + (j : Int)) from fun j => by rw [← hf3]; exact @decide_eq_true_iff _ (Classical.propDecidable _))
                    clear hf3
                    go_loopw [13, 24] (fun b i wr => T.Lp f3 s2 nQ b i ∧ Up w wr ∧ mblk wr q0 = some (.cells (BoC (N : Int) bl bh rl rh (.slice aP nP cP) (.slice aQ nQ cQ) (.slice aL ls.length cL)) 27 (0, 0)) ∧ mblk wr pky = some (.cells (BoC (N : Int) bl bh rl rh (.slice aP nP cP) (.slice aQ nQ cQ) (.slice a9 n9 c9)) 27 (0, 0)) ∧ Ints wr (.slice ai LI.length ci) LI ∧ Lks wr (.slice a9 n9 c9) (T.kpt [(k : Int)] ls ls.length)) (fun _ i _ => nQ - (intOf i).toNat)
                    case atStart => exact ⟨⟨0, _, Nat.zero_le _, by simp [T.allB], rfl, rfl⟩, U, kB, ky, IV, J9⟩
                    case round =>
                      clear U kB ky IV J9
                      obtain ⟨⟨j, bb, hj, hb, rfl, rfl⟩, U, kB, ky, IV, J9⟩ := hrel
                      have HB := Lib.hid hb
                      clear hb
                      by_cases hlt : j < nQ
                      · skip
                        skip
                        have ew : IntKind.i64.wrap ((j : Int) + 1) = (j : Int) + 1 := IntWalk.i64_in _ (by have := HNN.out; have := HNP.out; have := HNQ.out; omega)
                        have ilt : (j : Int) < (nQ : Nat) := by omega
                        have HC := C3.out j (by have := HNP.out; have := HNQ.out; omega)
                        have HD := D3.out j (by have := HNP.out; have := HNQ.out; omega)
                        have hfj := HF3.out j
                        obtain ⟨⟨l1, h1⟩, e1⟩ : ∃ p, T.tl P 0 (13 + (j : Int)) = p := ⟨_, rfl⟩
                        obtain ⟨⟨l2, h2⟩, e2⟩ : ∃ p, T.tl P' 0 (13 + (j : Int)) = p := ⟨_, rfl⟩
                        rw [e1] at HC hfj
                        rw [e2] at HD hfj
                        dsimp only at HC HD
                        have CC := Lib.hid HC
                        have DD := Lib.hid HD
                        have HS := Lib.hid (T.allB_step (f := f3) (j := j))
                        clear HC HD e1 e2 hlt
                        go_wp2_with fail
                        refine (CC.out _ U).mono ?_
                        rintro e x3001 ⟨rfl, u3002⟩
                        replace U := U.trans u3002
                        replace kB := u3002.blk kB
                        replace ky := u3002.blk ky
                        replace IV := IV.up u3002
                        replace J9 := J9.up u3002
                        clear u3002 CC
                        have dkBks := blk_lt kB
                        have dkyks := blk_lt ky
                        have gks := U.size
                        have ks := blk_new x3001 (.cells #[.int .i64 l1, .int .i64 h1] 23) _ rfl
                        replace kB := blk_keep (.cells #[.int .i64 l1, .int .i64 h1] 23) kB
                        replace ky := blk_keep (.cells #[.int .i64 l1, .int .i64 h1] 23) ky
                        replace U := U.alloc (.cells #[.int .i64 l1, .int .i64 h1] 23)
                        replace IV := IV.up ((Up.refl x3001).alloc (.cells #[.int .i64 l1, .int .i64 h1] 23))
                        replace J9 := J9.up ((Up.refl x3001).alloc (.cells #[.int .i64 l1, .int .i64 h1] 23))
                        obtain ⟨pks, hpks⟩ : ∃ z, x3001.heap.size = z := ⟨_, rfl⟩
                        obtain ⟨W3003, hW3003⟩ : ∃ z, x3001.alloc (.cells #[.int .i64 l1, .int .i64 h1] 23) = z := ⟨_, rfl⟩
                        rw [hpks] at ks dkBks dkyks gks
                        rw [hW3003] at ks U kB ky IV J9
                        go_wp2_with fail
                        clear hpks hW3003
                        refine (DD.out _ U _ _ _ J9).mono ?_
                        rintro e x3004 ⟨rfl, u3005⟩
                        replace U := U.trans u3005
                        replace kB := u3005.blk kB
                        replace ky := u3005.blk ky
                        replace ks := u3005.blk ks
                        replace IV := IV.up u3005
                        replace J9 := J9.up u3005
                        clear u3005 DD
                        have dkBkt := blk_lt kB
                        have dkykt := blk_lt ky
                        have dkskt := blk_lt ks
                        have gkt := U.size
                        have kt := blk_new x3004 (.cells #[.int .i64 l2, .int .i64 h2] 23) _ rfl
                        replace kB := blk_keep (.cells #[.int .i64 l2, .int .i64 h2] 23) kB
                        replace ky := blk_keep (.cells #[.int .i64 l2, .int .i64 h2] 23) ky
                        replace ks := blk_keep (.cells #[.int .i64 l2, .int .i64 h2] 23) ks
                        replace U := U.alloc (.cells #[.int .i64 l2, .int .i64 h2] 23)
                        replace IV := IV.up ((Up.refl x3004).alloc (.cells #[.int .i64 l2, .int .i64 h2] 23))
                        replace J9 := J9.up ((Up.refl x3004).alloc (.cells #[.int .i64 l2, .int .i64 h2] 23))
                        obtain ⟨pkt, hpkt⟩ : ∃ z, x3004.heap.size = z := ⟨_, rfl⟩
                        obtain ⟨W3006, hW3006⟩ : ∃ z, x3004.alloc (.cells #[.int .i64 l2, .int .i64 h2] 23) = z := ⟨_, rfl⟩
                        rw [hpkt] at kt dkBkt dkykt dkskt gkt
                        rw [hW3006] at kt U kB ky ks IV J9
                        skip
                        cases bb with
                        | false =>
                          skip
                          have HB2 := Lib.hid (show false = (s2 && T.allB f3 (j + 1)) by rw [HS.out, ← Bool.and_assoc, ← HB.out]; rfl)
                          clear HB hfj
                          go_wp2_with fail
                          go_roundw
                          case rel => exact ⟨⟨j + 1, false, by omega, HB2.out, rfl, by go_num⟩, U, kB, ky, IV, J9⟩
                          case measure => (simp only [intOf]; omega)
                        | true =>
                          by_cases hne : (l1, h1) = (l2, h2)
                          · skip
                            have hfj2 := hfj.2 hne
                            injection hne with n1 n2
                            subst n1 n2
                            have HB2 := Lib.hid (show true = (s2 && T.allB f3 (j + 1)) by rw [HS.out, ← Bool.and_assoc, ← HB.out]; rw [hfj2]; rfl)
                            clear HB hfj hfj2
                            go_wp2_with fail
                            go_roundw
                            case rel => exact ⟨⟨j + 1, true, by omega, HB2.out, rfl, by go_num⟩, U, kB, ky, IV, J9⟩
                            case measure => (simp only [intOf]; omega)
                          · skip
                            have hfj2 : f3 j = false := by rw [Bool.eq_false_iff]; exact fun q => hne (hfj.1 q)
                            have hd := S.span_ne hne
                            clear hne
                            rcases hd with hd | ⟨hd, hd2⟩
                            · skip
                              skip
                              have HB2 := Lib.hid (show false = (s2 && T.allB f3 (j + 1)) by rw [HS.out, ← Bool.and_assoc, ← HB.out]; rw [hfj2]; rfl)
                              clear HB hfj hfj2
                              go_wp2_with fail
                              go_roundw
                              case rel => exact ⟨⟨j + 1, false, by omega, HB2.out, rfl, by go_num⟩, U, kB, ky, IV, J9⟩
                              case measure => (simp only [intOf]; omega)
                            · skip
                              skip
                              have HB2 := Lib.hid (show false = (s2 && T.allB f3 (j + 1)) by rw [HS.out, ← Bool.and_assoc, ← HB.out]; rw [hfj2]; rfl)
                              clear HB hfj hfj2
                              go_wp2_with fail
                              go_roundw
                              case rel => exact ⟨⟨j + 1, false, by omega, HB2.out, rfl, by go_num⟩, U, kB, ky, IV, J9⟩
                              case measure => (simp only [intOf]; omega)
                      · skip
                        obtain rfl : nQ = j := by omega
                        have ilt : ¬ ((nQ : Nat) : Int) < (nQ : Nat) := by omega
                        clear hlt hj C3 D3
                        have hall : bb = true ↔ s k = true := by
                          rw [HSK.out, HB.out, HB2.out, HB1.out]
                          simp only [Bool.and_eq_true, true_and, T.allB_iff, HF1.out, HF2.out, HF3.out, HNP.out, HNQ.out, and_assoc]
                        have HFd := Lib.hid (fun w' (u : Up wr w') => B_Find_any (IV.up u) (k : Int))
                        have HCm := Lib.hid (show ∀ w', Up wr w' → Calls Try.prog 48 #[.slice ai LI.length ci, .int .i64 (ls.length : Int)] w' fun e w'' => e = .returned (.bool true) ∧ w' = w'' from fun w' u => by have := B_Climbs_any (IV.up u) ls.length (by omega); rw [HCl.out] at this; exact this)
                        have Uz := Up.refl wr
                        have Cw := C4.out
                        have Dw := D4.out
                        have hw : bb = true → T.wr (fun k => (T.tl P 0 (1 + (k : Int))).2 - (T.tl P 0 (1 + (k : Int))).1) N = T.wr (fun k => (T.tl P' 0 (1 + (k : Int))).2 - (T.tl P' 0 (1 + (k : Int))).1) N := fun q => by
                          have h1 := (HSK.out.1 (hall.1 q)).1
                          unfold T.wr
                          rw [T.wst_congr (f := fun k => (T.tl P 0 (1 + (k : Int))).2 - (T.tl P 0 (1 + (k : Int))).1) (g := fun k => (T.tl P' 0 (1 + (k : Int))).2 - (T.tl P' 0 (1 + (k : Int))).1) fun j hj => by simp only [h1 j hj]]
                        obtain ⟨⟨i1, w1, e1⟩, z1⟩ : ∃ p, T.wr (fun k => (T.tl P 0 (1 + (k : Int))).2 - (T.tl P 0 (1 + (k : Int))).1) N = p := ⟨_, rfl⟩
                        obtain ⟨⟨i2, w2, e2⟩, z2⟩ : ∃ p, T.wr (fun k => (T.tl P' 0 (1 + (k : Int))).2 - (T.tl P' 0 (1 + (k : Int))).1) N = p := ⟨_, rfl⟩
                        rw [z1] at Cw hw
                        rw [z2] at Dw hw
                        dsimp only at Cw Dw
                        have CW := Lib.hid Cw
                        have DW := Lib.hid Dw
                        have hfk : (∃ r : Int, True) := ⟨0, trivial⟩
                        have hkk : ((k : Int) ∉ LI) ↔ bb = false := by
                          rw [HKM.out, Bool.eq_false_iff, Ne, hall]
                          have := HKL.out
                          exact ⟨fun q r => q ⟨by omega, r⟩, fun q r => q r.2⟩
                        have HKK := Lib.hid hkk
                        clear hkk hfk hall z1 z2 Cw Dw C4 D4 HF1 HF2 HF3 HB HB1 HB2 HSK HKM HCl
                        cases bb with
                        | false =>
                          clear hw
                          have HK2 := Lib.hid (HKK.out.2 rfl)
                          clear HKK
                          go_wp2_with fail
                          refine (CW.out _ U).mono ?_
                          rintro e x9101 ⟨rfl, u9102⟩
                          replace U := U.trans u9102
                          replace kB := u9102.blk kB
                          replace ky := u9102.blk ky
                          replace IV := IV.up u9102
                          replace J9 := J9.up u9102
                          replace Uz := Uz.trans u9102
                          clear u9102 CW
                          go_wp2_with fail
                          refine (DW.out _ U _ _ _ J9).mono ?_
                          rintro e x9103 ⟨rfl, u9104⟩
                          replace U := U.trans u9104
                          replace kB := u9104.blk kB
                          replace ky := u9104.blk ky
                          replace IV := IV.up u9104
                          replace J9 := J9.up u9104
                          replace Uz := Uz.trans u9104
                          clear u9104 DW
                          go_wp2_with fail
                          refine (HCm.out _ Uz).mono ?_
                          rintro e x9105 ⟨rfl, rfl⟩
                          clear HCm
                          go_wp2_with fail
                          refine (HFd.out _ Uz).mono ?_
                          rintro e xx ⟨⟨r, rfl, hr⟩, rfl⟩
                          have d3 : r < 0 := hr.2 HK2.out
                          have d4 : decide (r ≥ 0) = false := decide_eq_false (by omega)
                          have d5 : ¬ 0 ≤ r := by omega
                          clear hr HFd HK2
                          go_wp2_with fail
                          refine (HW.out _).mono ?_
                          rintro e x9106 ⟨rfl, u9107⟩
                          replace U := U.trans u9107
                          replace kB := u9107.blk kB
                          replace ky := u9107.blk ky
                          replace IV := IV.up u9107
                          replace J9 := J9.up u9107
                          replace Uz := Uz.trans u9107
                          clear u9107 
                          go_wp2
                          go_ret
                          exact ⟨rfl, U⟩
                        | true =>
                          have q := hw rfl
                          injection q with q1 q2
                          injection q2 with q2 q3
                          subst q1 q2 q3
                          clear hw
                          have HK2 := Lib.hid (fun q => Bool.noConfusion (HKK.out.1 q) : ((k : Int) ∉ LI) → False)
                          clear HKK
                          go_wp2_with fail
                          refine (CW.out _ U).mono ?_
                          rintro e x9101 ⟨rfl, u9102⟩
                          replace U := U.trans u9102
                          replace kB := u9102.blk kB
                          replace ky := u9102.blk ky
                          replace IV := IV.up u9102
                          replace J9 := J9.up u9102
                          replace Uz := Uz.trans u9102
                          clear u9102 CW
                          go_wp2_with fail
                          refine (DW.out _ U _ _ _ J9).mono ?_
                          rintro e x9103 ⟨rfl, u9104⟩
                          replace U := U.trans u9104
                          replace kB := u9104.blk kB
                          replace ky := u9104.blk ky
                          replace IV := IV.up u9104
                          replace J9 := J9.up u9104
                          replace Uz := Uz.trans u9104
                          clear u9104 DW
                          go_wp2_with fail
                          refine (HCm.out _ Uz).mono ?_
                          rintro e x9105 ⟨rfl, rfl⟩
                          clear HCm
                          go_wp2_with fail
                          refine (HFd.out _ Uz).mono ?_
                          rintro e xx ⟨⟨r, rfl, hr⟩, rfl⟩
                          have d3 : ¬ r < 0 := fun q => HK2.out (hr.1 q)
                          have d4 : decide (r ≥ 0) = true := decide_eq_true (by omega)
                          have d5 : 0 ≤ r := by omega
                          clear hr HFd HK2
                          go_wp2_with fail
                          refine (HW.out _).mono ?_
                          rintro e x9106 ⟨rfl, u9107⟩
                          replace U := U.trans u9107
                          replace kB := u9107.blk kB
                          replace ky := u9107.blk ky
                          replace IV := IV.up u9107
                          replace J9 := J9.up u9107
                          replace Uz := Uz.trans u9107
                          clear u9107 
                          go_wp2
                          go_ret
                          exact ⟨rfl, U⟩
end

end Go.Proofs.Ytlpkheoljbdajaa
