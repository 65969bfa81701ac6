import Derived.Test.YtlpkheoljbdajaaFew
/- The contract of list. -/
namespace Go.Proofs.Ytlpkheoljbdajaa
open Go.RowKit Go.Shelf
attribute [local go_sem] Oper.semAt_some

/-- the clocks of a set below one, strictly increasing -/
def T.lst (s : Nat → Bool) (k : Nat) : List Int := ((List.range k).filter s).map (Nat.cast : Nat → Int)
theorem T.lst_yes {s : Nat → Bool} {k : Nat} (h : s k = true) : T.lst s (k + 1) = T.lst s k ++ [(k : Int)] := by
  unfold T.lst
  rw [List.range_succ, List.filter_append, List.map_append]
  simp [h]
theorem T.lst_no {s : Nat → Bool} {k : Nat} (h : s k = false) : T.lst s (k + 1) = T.lst s k := by
  unfold T.lst
  rw [List.range_succ, List.filter_append, List.map_append]
  simp [h]
theorem T.lst_len (s : Nat → Bool) (k : Nat) : (T.lst s k).length ≤ k := by
  unfold T.lst
  rw [List.length_map]
  have := List.length_filter_le s (List.range k)
  rwa [List.length_range] at this
theorem T.idx (s : Nat → Bool) {c : Nat} (h : c < 10) (w : World) : (Instr.index 79 (.agg (T.bc s)) (.int .i64 c)).run Try.prog w = .ok (.bool (s c)) w := by
  have e0 : ∀ w, (Instr.index 79 (.agg (T.bc s)) (.int .i64 0)).run Try.prog w = .ok (.bool (s 0)) w := fun _ => by kernel_rfl
  have e1 : ∀ w, (Instr.index 79 (.agg (T.bc s)) (.int .i64 1)).run Try.prog w = .ok (.bool (s 1)) w := fun _ => by kernel_rfl
  have e2 : ∀ w, (Instr.index 79 (.agg (T.bc s)) (.int .i64 2)).run Try.prog w = .ok (.bool (s 2)) w := fun _ => by kernel_rfl
  have e3 : ∀ w, (Instr.index 79 (.agg (T.bc s)) (.int .i64 3)).run Try.prog w = .ok (.bool (s 3)) w := fun _ => by kernel_rfl
  have e4 : ∀ w, (Instr.index 79 (.agg (T.bc s)) (.int .i64 4)).run Try.prog w = .ok (.bool (s 4)) w := fun _ => by kernel_rfl
  have e5 : ∀ w, (Instr.index 79 (.agg (T.bc s)) (.int .i64 5)).run Try.prog w = .ok (.bool (s 5)) w := fun _ => by kernel_rfl
  have e6 : ∀ w, (Instr.index 79 (.agg (T.bc s)) (.int .i64 6)).run Try.prog w = .ok (.bool (s 6)) w := fun _ => by kernel_rfl
  have e7 : ∀ w, (Instr.index 79 (.agg (T.bc s)) (.int .i64 7)).run Try.prog w = .ok (.bool (s 7)) w := fun _ => by kernel_rfl
  have e8 : ∀ w, (Instr.index 79 (.agg (T.bc s)) (.int .i64 8)).run Try.prog w = .ok (.bool (s 8)) w := fun _ => by kernel_rfl
  have e9 : ∀ w, (Instr.index 79 (.agg (T.bc s)) (.int .i64 9)).run Try.prog w = .ok (.bool (s 9)) w := fun _ => by kernel_rfl
  match c, h with
  | 0, _ => exact e0 w
  | 1, _ => exact e1 w
  | 2, _ => exact e2 w
  | 3, _ => exact e3 w
  | 4, _ => exact e4 w
  | 5, _ => exact e5 w
  | 6, _ => exact e6 w
  | 7, _ => exact e7 w
  | 8, _ => exact e8 w
  | 9, _ => exact e9 w
set_option maxRecDepth 100000 in
set_option maxHeartbeats 2000000 in
theorem list_any (s : Nat → Bool) (w : World) : Calls Try.prog 75 #[LoV s] w fun e w' => (∃ v, e = .returned v ∧ Ints w' v (T.lst s 10)) ∧ Up w w' := by
  have HAT := Lib.hid (fun c (h : c < 10) w' => T.idx s h w')
  obtain ⟨x0, hx0⟩ : ∃ x, s 0 = x := ⟨_, rfl⟩
  obtain ⟨x1, hx1⟩ : ∃ x, s 1 = x := ⟨_, rfl⟩
  obtain ⟨x2, hx2⟩ : ∃ x, s 2 = x := ⟨_, rfl⟩
  obtain ⟨x3, hx3⟩ : ∃ x, s 3 = x := ⟨_, rfl⟩
  obtain ⟨x4, hx4⟩ : ∃ x, s 4 = x := ⟨_, rfl⟩
  obtain ⟨x5, hx5⟩ : ∃ x, s 5 = x := ⟨_, rfl⟩
  obtain ⟨x6, hx6⟩ : ∃ x, s 6 = x := ⟨_, rfl⟩
  obtain ⟨x7, hx7⟩ : ∃ x, s 7 = x := ⟨_, rfl⟩
  obtain ⟨x8, hx8⟩ : ∃ x, s 8 = x := ⟨_, rfl⟩
  obtain ⟨x9, hx9⟩ : ∃ x, s 9 = x := ⟨_, rfl⟩
  have HX := Lib.hid (And.intro hx0 (And.intro hx1 (And.intro hx2 (And.intro hx3 (And.intro hx4 (And.intro hx5 (And.intro hx6 (And.intro hx7 (And.intro hx8 hx9)))))))))
  show Calls Try.prog 75 #[.agg #[.bool (s 0), .bool (s 1), .bool (s 2), .bool (s 3), .bool (s 4), .bool (s 5), .bool (s 6), .bool (s 7), .bool (s 8), .bool (s 9)]] w _
  rw [hx0, hx1, hx2, hx3, hx4, hx5, hx6, hx7, hx8, hx9]
  clear hx0 hx1 hx2 hx3 hx4 hx5 hx6 hx7 hx8 hx9
  go_enter Try.func75, Try.ntmps75
  have U0 := (Up.refl w).alloc (.cells #[.bool x0, .bool x1, .bool x2, .bool x3, .bool x4, .bool x5, .bool x6, .bool x7, .bool x8, .bool x9] 79)
  have kx := blk_new w (.cells #[.bool x0, .bool x1, .bool x2, .bool x3, .bool x4, .bool x5, .bool x6, .bool x7, .bool x8, .bool x9] 79) _ rfl
  go_wp2_with fail
  generalize hW : w.alloc _ = W at U0 kx ⊢
  obtain ⟨q, hq⟩ : ∃ x, w.heap.size = x := ⟨_, rfl⟩
  rw [hq] at kx ⊢
  have hq1 : q ≤ W.heap.size := by rw [← hq]; exact U0.size
  go_loopw [3, 7] (fun v i wr => ∃ (k : Nat), k ≤ 10 ∧ i = .int .i64 k ∧ Up w wr ∧ wr.ownsRow q 3 1 v (T.lst s k).length ((T.lst s k).map (Value.int .i64)) ∧ q ≤ wr.heap.size) (fun _ i _ => 10 - (intOf i).toNat)
  case atStart => exact ⟨0, Nat.zero_le _, rfl, U0, by show W.ownsRow q 3 1 (.slice none 0 0) 0 []; exact World.ownsRow_nil _ _ _ _, hq1⟩
  case round =>
    clear kx U0
    obtain ⟨k, hk, rfl, V, hown, hq2⟩ := hrel
    by_cases hlt : k < 10
    · have d1 : decide (k < 10) = true := decide_eq_true hlt
      obtain ⟨x, hx⟩ : ∃ x, s k = x := ⟨_, rfl⟩
      have hat := HAT.out k hlt wr
      rw [hx] at hat
      have ew : IntKind.i64.wrap ((k : Int) + 1) = (k : Int) + 1 := IntWalk.i64_in _ (by omega)
      have hin : decide ((k : Int) < 10) = true := decide_eq_true (by omega)
      replace hat : (Instr.index 79 (.agg #[.bool (s 0), .bool (s 1), .bool (s 2), .bool (s 3), .bool (s 4), .bool (s 5), .bool (s 6), .bool (s 7), .bool (s 8), .bool (s 9)]) (.int .i64 k)).run Try.prog wr = .ok (.bool x) wr := hat
      rw [HX.out.1, HX.out.2.1, HX.out.2.2.1, HX.out.2.2.2.1, HX.out.2.2.2.2.1, HX.out.2.2.2.2.2.1, HX.out.2.2.2.2.2.2.1, HX.out.2.2.2.2.2.2.2.1, HX.out.2.2.2.2.2.2.2.2.1, HX.out.2.2.2.2.2.2.2.2.2] at hat
      have HV := Lib.hid V
      have HO := Lib.hid hown
      have hll := T.lst_len s k
      cases x with
      | false =>
        have HN := Lib.hid (T.lst_no hx)
        clear hown V hx
        go_wp2
        refine ⟨⟨k + 1, by omega, rfl, HV.out, ?_, hq2⟩, by simp only [intOf]; omega⟩
        rw [HN.out]
        exact HO.out
      | true =>
        have HN := Lib.hid (T.lst_yes hx)
        clear hx V
        obtain ⟨i0, hi, hz0, hz1, hz2⟩ := info_parts Try.infoInt
        have hU := Try.underlying28
        go_wp2_with (at_builtin; refine wpList_append_own _ rfl (.tmp 12) (.tmp 14) 28 rfl q 3 i0 (.int .i64 0) 1 8 hU hi hz0 hz1 hz2 rfl (by decide) _ (T.lst s k).length _ rfl (hown.alloc _) ⟨wr.heap.size, 0, none⟩ 1 1 [.int .i64 k] rfl rfl (cell_one_new _ _ _) (by simp [Value.oneCell']) (by unfold maxLen; omega) (by omega) (by simp; omega) ?_; intro v' w6 hown6 hgrow6 hv6)
        refine ⟨⟨k + 1, by omega, rfl, (HV.out.alloc _).grown hgrow6 (fun b e => by have := row_base HO.out b e; omega), ?_, ?_⟩, by simp only [intOf]; omega⟩
        · rw [HN.out, List.length_append, List.map_append]
          exact hown6
        · have := hgrow6.size
          rw [sz1] at this
          omega
    · have d1 : decide (k < 10) = false := decide_eq_false hlt
      have hin : decide ((k : Int) < 10) = false := decide_eq_false (by omega)
      obtain rfl : k = 10 := by omega
      have HV := Lib.hid V
      have hll := T.lst_len s 10
      rcases hown.2 with ⟨rfl, hn⟩ | ⟨g, cap, cur, rfl, hg, hcu, hnc, hcm, hcz, hcc⟩
      · clear hown
        go_wp2
        go_ret
        refine ⟨⟨_, rfl, ?_⟩, HV.out⟩
        rw [List.eq_nil_of_length_eq_zero hn]
        exact Ints.nil _
      · obtain ⟨xs, hxs⟩ : ∃ x, T.lst s 10 = x := ⟨_, rfl⟩
        rw [hxs] at hll hnc hcc ⊢
        obtain ⟨n, hn⟩ : ∃ x, xs.length = x := ⟨_, rfl⟩
        have HC := Lib.hid (And.intro hcu hcc)
        have HN := Lib.hid hn
        have HXS := Lib.hid hxs
        rw [hn] at hll hnc ⊢
        clear hown V hxs hn hcc hcu hcz
        go_wp2
        go_ret
        obtain ⟨hcu, hcc⟩ := HC.out
        refine ⟨⟨_, rfl, ?_⟩, HV.out⟩
        rw [HXS.out, ← HN.out]
        refine Ints.new hcu (Nat.le_refl _) (by have := HN.out; omega) fun j hj => ?_
        have h1 : cur.toList[j]? = (cur.toList.take (xs.length * 1))[j]? := by rw [List.getElem?_take, if_pos (by omega)]
        rw [← Array.getElem?_toList, h1, hcc, List.getElem?_map, List.getElem?_eq_getElem hj, List.getD_eq_getElem?_getD, List.getElem?_eq_getElem hj]
        rfl

end Go.Proofs.Ytlpkheoljbdajaa

/- The contract of Wrong. -/
namespace Go.Proofs.Ytlpkheoljbdajaa
open Go.RowKit Go.Shelf
attribute [local go_sem] Oper.semAt_some

section
variable {N : Nat} {bl bh rl rh : Int} {aP aQ aL : Option Addr} {nP cP nQ cQ nL cL : Nat} {ps qs : List (Int × Int)} {ls : List T.T5} {s : Nat → Bool}
/-- whether a book can be true without a set of looks -/
noncomputable def T.canP (N : Nat) (bl bh rl rh : Int) (ps qs : List (Int × Int)) (ls : List T.T5) (s : Nat → Bool) : Bool :=
  @decide (∃ y, T.Sat true (T.web N bl bh rl rh ps qs ls s) y) (Classical.propDecidable _)
theorem T.canP_iff : T.canP N bl bh rl rh ps qs ls s = true ↔ ∃ y, T.Sat true (T.web N bl bh rl rh ps qs ls s) y := by
  unfold T.canP
  exact @decide_eq_true_iff _ (Classical.propDecidable _)
set_option maxRecDepth 100000 in
set_option maxHeartbeats 1000000 in
theorem Wrong_bad {w : World} {M : Int} (I : Sps w (.slice aP nP cP) ps) (J : Sps w (.slice aQ nQ cQ) qs) (K : Lks w (.slice aL nL cL) ls) (h : T.valid M bl bh rl rh ps qs ls = false) :
    Calls Try.prog 31 #[BoV M bl bh rl rh (.slice aP nP cP) (.slice aQ nQ cQ) (.slice aL nL cL)] w fun e w' => e = .returned (.tuple #[.slice none 0 0, .int .i64 30]) ∧ Up w w' := by
  have U := (Up.refl w).alloc (.cells (BoC M bl bh rl rh (.slice aP nP cP) (.slice aQ nQ cQ) (.slice aL nL cL)) 27)
  have HN := Lib.hid (fun w' (u : Up w w') => newBook_no (I.up u) (J.up u) (K.up u) h)
  clear I J K h
  go_enter Try.func31, Try.ntmps31
  go_wp2_with fail
  refine (HN.out _ U).mono ?_
  rintro e w1 ⟨rfl, u⟩
  have UE := (U.trans u).alloc (.cells #[.int .i64 0, .int .i64 0, .int .i64 0, .int .i64 0, .int .i64 0, .slice none 0 0, .slice none 0 0, .slice none 0 0, .bool false, .bool false, .bool false, .bool false, .bool false, .bool false, .bool false, .bool false, .bool false, .bool false] 81)
  have hst : (bookStore (.pointer (some ⟨w1.heap.size, 0, none⟩)) BkZ).run Try.prog (w1.alloc (.cells #[.int .i64 0, .int .i64 0, .int .i64 0, .int .i64 0, .int .i64 0, .slice none 0 0, .slice none 0 0, .slice none 0 0, .bool false, .bool false, .bool false, .bool false, .bool false, .bool false, .bool false, .bool false, .bool false, .bool false] 81)) = .ok () (w1.alloc (.cells #[.int .i64 0, .int .i64 0, .int .i64 0, .int .i64 0, .int .i64 0, .slice none 0 0, .slice none 0 0, .slice none 0 0, .bool false, .bool false, .bool false, .bool false, .bool false, .bool false, .bool false, .bool false, .bool false, .bool false] 81)) := by
    have q := run_bookStore_row (w1.alloc (.cells #[.int .i64 0, .int .i64 0, .int .i64 0, .int .i64 0, .int .i64 0, .slice none 0 0, .slice none 0 0, .slice none 0 0, .bool false, .bool false, .bool false, .bool false, .bool false, .bool false, .bool false, .bool false, .bool false, .bool false] 81)) w1.heap.size #[.int .i64 0, .int .i64 0, .int .i64 0, .int .i64 0, .int .i64 0, .slice none 0 0, .slice none 0 0, .slice none 0 0, .bool false, .bool false, .bool false, .bool false, .bool false, .bool false, .bool false, .bool false, .bool false, .bool false] #[.int .i64 0, .int .i64 0, .int .i64 0, .int .i64 0, .int .i64 0, .slice none 0 0, .slice none 0 0, .slice none 0 0, .bool false, .bool false, .bool false, .bool false, .bool false, .bool false, .bool false, .bool false, .bool false, .bool false] (blk_new _ _ _ rfl) rfl ⟨rfl, by simp [Value.oneCell']⟩
    rw [setRow_new _ _ _ _ _ rfl] at q
    exact q
  clear HN u U
  go_wp2
  go_ret2
  exact ⟨rfl, UE⟩
set_option maxRecDepth 100000 in
set_option maxHeartbeats 2000000 in
theorem Wrong_ok {w : World} (I : Sps w (.slice aP nP cP) ps) (J : Sps w (.slice aQ nQ cQ) qs) (K : Lks w (.slice aL nL cL) ls) (h : T.valid N bl bh rl rh ps qs ls = true) :
    Calls Try.prog 31 #[BoV (N : Int) bl bh rl rh (.slice aP nP cP) (.slice aQ nQ cQ) (.slice aL nL cL)] w fun e w' => (∃ v, e = .returned (.tuple #[v, .int .i64 0]) ∧ Ints w' v (T.lst (T.fewS (T.canP N bl bh rl rh ps qs ls) ls.length) 10)) ∧ Up w w' := by
  have U := (Up.refl w).alloc (.cells (BoC (N : Int) bl bh rl rh (.slice aP nP cP) (.slice aQ nQ cQ) (.slice aL nL cL)) 27)
  have HN := Lib.hid (fun w' (u : Up w w') => newBook_ok (I.up u) (J.up u) (K.up u) h)
  have HP : ∀ w', Up w w' → ∀ s : Nat → Bool, Calls Try.prog 74 #[BkV (N : Int) bl bh rl rh (.slice aP nP cP) (.slice aQ nQ cQ) (.slice aL nL cL) T.o0, LoV s] w' fun e w'' => e = .returned (.bool (T.canP N bl bh rl rh ps qs ls s)) ∧ Up w' w'' := fun w' u s => by
    refine (canBe_any (o := T.o0) (s := s) (I.up u) (J.up u) (K.up u) h).mono ?_
    rintro e w'' ⟨⟨r, rfl, hr⟩, u'⟩
    refine ⟨?_, u'⟩
    have : r = T.canP N bl bh rl rh ps qs ls s := by rw [Bool.eq_iff_iff, T.canP_iff]; exact hr
    rw [this]
  have l10 : ls.length ≤ 10 := (T.valid_bok h).l10
  have hn := K.len
  have HF := Lib.hid (fun w1 (u : Up w w1) => fewest_any (w0 := w1) l10 (fun w' u' => HP w' (u.trans u')))
  have HL := Lib.hid (fun w' => list_any (T.fewS (T.canP N bl bh rl rh ps qs ls) ls.length) w')
  clear I J K h HP l10
  subst hn
  go_enter Try.func31, Try.ntmps31
  go_wp2_with fail
  refine (HN.out _ U).mono ?_
  rintro e W1 ⟨rfl, u1⟩
  have u2 := (Up.refl W1).alloc (.cells (BkC (N : Int) bl bh rl rh (.slice aP nP cP) (.slice aQ nQ cQ) (.slice aL ls.length cL) T.o0) 81)
  have kB := blk_new W1 (.cells (BkC (N : Int) bl bh rl rh (.slice aP nP cP) (.slice aQ nQ cQ) (.slice aL ls.length cL) T.o0) 81) _ rfl
  have UW := (U.trans u1).trans u2
  have lB := blk_lt kB
  clear HN u1 u2 U
  go_wp2_with fail
  refine (HF.out _ UW).mono ?_
  rintro e W3 ⟨rfl, u3⟩
  replace UW := UW.trans u3
  clear HF u3 kB lB
  go_wp2_with fail
  refine (HL.out _).mono ?_
  rintro e W4 ⟨⟨v, rfl, hi⟩, u4⟩
  have HI := Lib.hid hi
  have UE := UW.trans u4
  clear HL hi u4
  go_wp2
  go_ret2
  exact ⟨⟨v, rfl, HI.out⟩, UE⟩
end

end Go.Proofs.Ytlpkheoljbdajaa
