import Derived.Test.YtlpkheoljbdajaaTbl
/- The contract of newWeb. -/
namespace Go.Proofs.Ytlpkheoljbdajaa
open Go.RowKit Go.Shelf

def T.encT : T.T4 → Nat → Int
  | ((a, _), _, _), 0 => a
  | ((_, b), _, _), 1 => b
  | (_, l, _), 2 => l
  | (_, _, u), _ => u
abbrev Tis := Tab 4 T.encT ((0, 0), 0, 0)
theorem infoTie : (Try.prog.info? 145).map (fun i => (i.zero, i.size, i.bytes)) = some (some (.agg #[.int .i64 0, .int .i64 0, .int .i64 0, .int .i64 0]), 4, 32) := by kernel_rfl
/-- the ties of a thing with those below a number; of the things below a number -/
def T.rowT (K : T.Kn) (a k : Nat) : List T.T4 := (List.range k).flatMap fun (b : Nat) => match K ((a : Int), (b : Int)) with | none => [] | some s => [(((a : Int), (b : Int)), s)]
def T.webT (K : T.Kn) (a : Nat) : List T.T4 := (List.range a).flatMap fun (x : Nat) => T.rowT K x 17
theorem T.rowT_succ (K : T.Kn) (a k : Nat) : T.rowT K a (k + 1) = T.rowT K a k ++ (match K ((a : Int), (k : Int)) with | none => [] | some s => [(((a : Int), (k : Int)), s)]) := by
  unfold T.rowT
  rw [List.range_succ, List.flatMap_append]
  simp
theorem T.webT_succ (K : T.Kn) (a : Nat) : T.webT K (a + 1) = T.webT K a ++ T.rowT K a 17 := by
  unfold T.webT
  rw [List.range_succ, List.flatMap_append]
  simp
theorem T.rowT_len (K : T.Kn) (a : Nat) : ∀ k, (T.rowT K a k).length ≤ k
  | 0 => by simp [T.rowT]
  | k + 1 => by
    rw [T.rowT_succ, List.length_append]
    have := T.rowT_len K a k
    cases K ((a : Int), (k : Int)) <;> simp <;> omega
theorem T.webT_len (K : T.Kn) : ∀ a, (T.webT K a).length ≤ 17 * a
  | 0 => by simp [T.webT]
  | a + 1 => by
    rw [T.webT_succ, List.length_append]
    have := T.webT_len K a
    have := T.rowT_len K a 17
    omega
/-- all ties of a book -/

def T.New (w : World) (v : Value) : Prop := ∀ k, v.ownBlock = some k → w.heap.size ≤ k
def T.web (N : Nat) (bl bh rl rh : Int) (ps qs : List (Int × Int)) (ls : List T.T5) (o : Nat → Bool) : List T.T4 := T.webT (T.lrnAll (fun _ => none) (T.ties N bl bh rl rh ps qs ls o)) 17
section
variable {N : Nat} {bl bh rl rh : Int} {aP aQ aL : Option Addr} {nP cP nQ cQ nL cL : Nat} {o : Nat → Bool} {ps qs : List (Int × Int)} {ls : List T.T5}
set_option maxRecDepth 100000 in
set_option maxHeartbeats 4000000 in
theorem newWeb_any {w : World} (b : T.Bok N bl bh rl rh ps qs ls) (I : Sps w (.slice aP nP cP) ps) (J : Sps w (.slice aQ nQ cQ) qs) (K : Lks w (.slice aL nL cL) ls) :
    Calls Try.prog 57 #[BkV (N : Int) bl bh rl rh (.slice aP nP cP) (.slice aQ nQ cQ) (.slice aL nL cL) o] w fun e w' => (∃ a n c, e = .returned (WeV (N : Int) bl bh rl rh (.slice aP nP cP) (.slice aQ nQ cQ) (.slice aL nL cL) o (.slice a n c)) ∧ Tis w' (.slice a n c) (T.web N bl bh rl rh ps qs ls o) ∧ T.New w (.slice a n c)) ∧ Up w w' := by
  have HN := Lib.hid (fun w' (u : Up w w') => newKnown_any (o := o) b (I.up u) (J.up u) (K.up u))
  obtain ⟨L, hL⟩ : ∃ L, T.lrnAll (fun _ => none) (T.ties N bl bh rl rh ps qs ls o) = L := ⟨_, rfl⟩
  have HW := Lib.hid (show T.web N bl bh rl rh ps qs ls o = T.webT L 17 by unfold T.web; rw [hL])
  have HLL := Lib.hid hL
  clear I J K b hL
  go_enter Try.func57, Try.ntmps57
  go_wp2_with fail
  obtain ⟨q0, e0⟩ : ∃ x, w.heap.size = x := ⟨_, rfl⟩
  obtain ⟨q1, e1⟩ : ∃ x, q0 + 1 = x := ⟨_, rfl⟩
  obtain ⟨W0, hW0⟩ : ∃ x, (w.alloc (.cells (BkC (N : Int) bl bh rl rh (.slice aP nP cP) (.slice aQ nQ cQ) (.slice aL nL cL) o) 81)).alloc (.cells #[.int .i64 0, .int .i64 0, .int .i64 0, .int .i64 0, .int .i64 0, .slice none 0 0, .slice none 0 0, .slice none 0 0, .bool false, .bool false, .bool false, .bool false, .bool false, .bool false, .bool false, .bool false, .bool false, .bool false, .slice none 0 0] 90) = x := ⟨_, rfl⟩
  have U0 : Up w W0 := by rw [← hW0]; exact ((Up.refl w).alloc _).alloc _
  have kC : mblk W0 q0 = some (.cells (BkC (N : Int) bl bh rl rh (.slice aP nP cP) (.slice aQ nQ cQ) (.slice aL nL cL) o) 81 (0, 0)) := by rw [← hW0]; exact blk_keep _ (blk_new _ _ _ e0.symm)
  have kR : mblk W0 q1 = some (.cells #[.int .i64 0, .int .i64 0, .int .i64 0, .int .i64 0, .int .i64 0, .slice none 0 0, .slice none 0 0, .slice none 0 0, .bool false, .bool false, .bool false, .bool false, .bool false, .bool false, .bool false, .bool false, .bool false, .bool false, .slice none 0 0] 90 (0, 0)) := by rw [← hW0]; exact blk_new _ _ _ (by simp; omega)
  rw [hW0, e0, e1]
  clear hW0
  refine (HN.out W0 U0).mono ?_
  rintro e W1 ⟨m, rfl, hK, u1⟩
  replace kC := u1.blk kC
  replace kR := u1.blk kR
  have UW := U0.trans u1
  have hml := hK.lt
  have lC := blk_lt kC
  have lR := blk_lt kR
  clear u1 U0 HN
  obtain ⟨q4, e4⟩ : ∃ x, W1.heap.size = x := ⟨_, rfl⟩
  obtain ⟨W2, hW2⟩ : ∃ x, W1.alloc (.cells (WeC (N : Int) bl bh rl rh (.slice aP nP cP) (.slice aQ nQ cQ) (.slice aL nL cL) o (.slice none 0 0)) 90) = x := ⟨_, rfl⟩
  have u2 : Up W1 W2 := by rw [← hW2]; exact (Up.refl W1).alloc _
  have kW : mblk W2 q4 = some (.cells (WeC (N : Int) bl bh rl rh (.slice aP nP cP) (.slice aQ nQ cQ) (.slice aL nL cL) o (.slice none 0 0)) 90 (0, 0)) := by rw [← hW2]; exact blk_new _ _ _ e4.symm
  have kC2 := u2.blk kC
  have kR2 := u2.blk kR
  have UW2 := UW.trans u2
  have HK := Lib.hid (show T.Inn W2 m (2 * (T.ties N bl bh rl rh ps qs ls o).length) L by have q := hK.up u2; unfold T.KK at q; rw [HLL.out] at q; exact q)
  have z2 : q4 + 1 = W2.heap.size := by rw [← hW2]; simp; omega
  rw [e4] at hml lC lR
  have lW := blk_lt kW
  clear u2 hK kR UW
  go_wp2_with fail
  try rw [e4]
  try rw [hW2]
  clear hW2 kC lW
  go_loopw [13] (fun iv wr => ∃ a : Nat, a ≤ 17 ∧ iv = .int .i64 a ∧ (∃ v, mblk wr q4 = some (.cells (WeC (N : Int) bl bh rl rh (.slice aP nP cP) (.slice aQ nQ cQ) (.slice aL nL cL) o v) 90 (0, 0)) ∧ wr.ownsRow W2.heap.size 145 4 v (T.webT L a).length (T.flat 4 T.encT (T.webT L a))) ∧ W2.grownBy wr (some q4)) (fun iv _ => 17 - (intOf iv).toNat)
  case atStart => exact ⟨0, by omega, rfl, ⟨.slice none 0 0, kW, World.ownsRow_nil _ _ _ _⟩, up_grown (Up.refl W2) _⟩
  case round =>
    clear kW
    obtain ⟨a, ha, rfl, ⟨v, h1, h2⟩, h3⟩ := hrel
    by_cases hlt : a < 17
    · have hlt' : (a : Int) < 17 := by omega
      go_wp2_with fail
      go_loopw [16] (fun iv wr => ∃ k : Nat, k ≤ 17 ∧ iv = .int .i64 k ∧ (∃ v, mblk wr q4 = some (.cells (WeC (N : Int) bl bh rl rh (.slice aP nP cP) (.slice aQ nQ cQ) (.slice aL nL cL) o v) 90 (0, 0)) ∧ wr.ownsRow W2.heap.size 145 4 v (T.webT L a ++ T.rowT L a k).length (T.flat 4 T.encT (T.webT L a ++ T.rowT L a k))) ∧ W2.grownBy wr (some q4)) (fun iv _ => 17 - (intOf iv).toNat)
      case atStart => exact ⟨0, by omega, rfl, ⟨v, h1, by rw [show T.rowT L a 0 = [] from rfl, List.append_nil]; exact h2⟩, h3⟩
      case round =>
        clear h1 h2 h3
        obtain ⟨k, hk, rfl, ⟨v, h1, h2⟩, h3⟩ := hrel
        by_cases hlt2 : k < 17
        · have hlt2' : (k : Int) < 17 := by omega
          have hKY : T.Inn wr m (2 * (T.ties N bl bh rl rh ps qs ls o).length) L := HK.out.same (h3.block m HK.out.lt (fun e => by have := Option.some.inj e; omega))
          have hx64 : T.in64 ((a : Int), (k : Int)) := ⟨⟨by omega, by omega⟩, by omega, by omega⟩
          have l1 := blk_lt h1
          cases hs : L ((a : Int), (k : Int)) with
          | none =>
            have hlo := hKY.no hx64 hs
            have HE := Lib.hid (show T.rowT L a (k + 1) = T.rowT L a k by rw [T.rowT_succ, hs]; simp)
            have HH := Lib.hid (show (∃ v, mblk (wr.alloc (.cells #[.int .i64 0, .int .i64 0] 23)) q4 = some (.cells (WeC (N : Int) bl bh rl rh (.slice aP nP cP) (.slice aQ nQ cQ) (.slice aL nL cL) o v) 90 (0, 0)) ∧ (wr.alloc (.cells #[.int .i64 0, .int .i64 0] 23)).ownsRow W2.heap.size 145 4 v (T.webT L a ++ T.rowT L a k).length (T.flat 4 T.encT (T.webT L a ++ T.rowT L a k))) ∧ W2.grownBy (wr.alloc (.cells #[.int .i64 0, .int .i64 0] 23)) (some q4) from ⟨⟨v, blk_keep _ h1, row_up h2 ((Up.refl wr).alloc _)⟩, grown_trans h3 (up_grown ((Up.refl wr).alloc _) _)⟩)
            clear hs hKY h1 h2 h3 hx64
            go_wp2
            go_roundw
            case rel => exact ⟨k + 1, by omega, by go_num, by rw [HE.out]; exact HH.out⟩
            case measure => simp [intOf]; omega
          | some s0 =>
            obtain ⟨s1, s2⟩ := s0
            have hlo := hKY.yes hx64 hs
            have HE := Lib.hid (show T.webT L a ++ T.rowT L a (k + 1) = (T.webT L a ++ T.rowT L a k) ++ [(((a : Int), (k : Int)), s1, s2)] by rw [T.rowT_succ, hs, List.append_assoc])
            have hlen : (T.webT L a ++ T.rowT L a k).length ≤ 5000 := by
              rw [List.length_append]
              have q1 := T.webT_len L a
              have q2 := T.rowT_len L a k
              omega
            obtain ⟨xs, hxs⟩ : ∃ l, T.webT L a ++ T.rowT L a k = l := ⟨_, rfl⟩
            rw [hxs] at h2 hlen HE
            clear hs hKY hx64 hxs
            obtain ⟨i0, hi, hz0, hz1, hz2⟩ := info_parts infoTie
            have hU := Try.underlying88
            have f1 := frozB h1
            obtain ⟨va, vc, rfl, vc1, vc2⟩ := row_val h2
            have HA2 := Lib.hid h2
            have HW3 := Lib.hid h3
            have H1 := Lib.hid h1
            simp only at hlo
            have u0 : Up wr ((wr.alloc (.cells #[.int .i64 s1, .int .i64 s2] 23)).alloc (.cells #[.int .i64 a, .int .i64 k, .int .i64 s1, .int .i64 s2] 145)) := ((Up.refl wr).alloc _).alloc _
            have HU0 := Lib.hid u0
            clear u0 h3
            go_wp2_with (at_builtin; refine wpList_append_own _ rfl (.tmp 29) (.tmp 35) 88 rfl W2.heap.size 145 i0 (.agg #[.int .i64 0, .int .i64 0, .int .i64 0, .int .i64 0]) 4 32 hU hi hz0 hz1 hz2 rfl (by decide) _ xs.length _ rfl ((h2.alloc _).alloc _) ⟨wr.heap.size + 1, 0, none⟩ 1 1 [.int .i64 a, .int .i64 k, .int .i64 s1, .int .i64 s2] rfl rfl (cells_new [.int .i64 a, .int .i64 k, .int .i64 s1, .int .i64 s2] (by simp) _) (by simp [Value.oneCell']) (by unfold maxLen; omega) (by omega) (by simp; omega) ?_; intro v' w5 hown5 hgrow5 hv5; obtain ⟨g5, cap5, rfl, hg5⟩ := row_slice hown5; have x5 := grown_blk hgrow5 (blk_keep _ (blk_keep _ h1)) (row_block h2 (by omega)); have f5 := frozB x5; have l5 := blk_lt x5)
            obtain ⟨Zw, hZ⟩ : ∃ z, w5.setCell ⟨q4, 18, none⟩ (.slice (some ⟨g5, 0, none⟩) (xs.length + 1) cap5) = z := ⟨_, rfl⟩
            have gS : w5.grownBy Zw (some q4) := by rw [← hZ]; exact grown_set w5 q4 18 _
            have a1Z : mblk Zw q4 = some (.cells (WeC (N : Int) bl bh rl rh (.slice aP nP cP) (.slice aQ nQ cQ) (.slice aL nL cL) o (.slice (some ⟨g5, 0, none⟩) (xs.length + 1) cap5)) 90 (0, 0)) := by rw [← hZ]; exact blk_put x5 18 _
            have H5 := ownsRow_setCell_other hown5 (a := ⟨q4, 18, none⟩) (by show some g5 ≠ some q4; intro e; have := Option.some.inj e; omega) (.slice (some ⟨g5, 0, none⟩) (xs.length + 1) cap5)
            rw [hZ] at H5
            try rw [hZ]
            have a2' := HA2.out
            have a3Z := grown_trans (grown_own (grown_trans HW3.out (up_grown HU0.out (some q4))) hgrow5 fun r e => row_base a2' r e) gS
            have HH := Lib.hid (show (∃ v, mblk Zw q4 = some (.cells (WeC (N : Int) bl bh rl rh (.slice aP nP cP) (.slice aQ nQ cQ) (.slice aL nL cL) o v) 90 (0, 0)) ∧ Zw.ownsRow W2.heap.size 145 4 v (xs ++ [(((a : Int), (k : Int)), s1, s2)]).length (T.flat 4 T.encT (xs ++ [(((a : Int), (k : Int)), s1, s2)]))) ∧ W2.grownBy Zw (some q4) from ⟨⟨_, a1Z, by rw [T.flat_app, List.length_append]; exact H5⟩, a3Z⟩)
            go_roundw
            case rel => exact ⟨k + 1, by omega, by go_num, by rw [HE.out]; exact HH.out⟩
            case measure => simp [intOf]; omega
        · obtain rfl : k = 17 := by omega
          have hlt2' : ¬ ((17 : Nat) : Int) < 17 := by omega
          go_wp2
          go_roundw
          case rel => exact ⟨a + 1, by omega, by go_num, ⟨v, h1, by rw [T.webT_succ]; exact h2⟩, h3⟩
          case measure => simp [intOf]; omega
    · obtain rfl : a = 17 := by omega
      have hlt' : ¬ ((17 : Nat) : Int) < 17 := by omega
      have hlen := T.webT_len L 17
      have HW' := HW.out
      obtain ⟨xs, hxs⟩ : ∃ l, T.webT L 17 = l := ⟨_, rfl⟩
      rw [hxs] at h2 hlen HW'
      replace HW' := Lib.hid HW'
      clear HW hxs
      have kR3 := grown_blk h3 kR2 (fun e => by have := Option.some.inj e; omega)
      obtain ⟨va, vc, rfl, vc1, vc2⟩ := row_val h2
      have l1 := blk_lt h1
      have UE := Up.setRow ((UW2).grown h3 (fun k e => by have := Option.some.inj e; have := UW2.size; omega)) (show w.heap.size ≤ q1 by omega) (WeC (N : Int) bl bh rl rh (.slice aP nP cP) (.slice aQ nQ cQ) (.slice aL nL cL) o (.slice va xs.length vc))
      have gR := grown_row wr q1 (WeC (N : Int) bl bh rl rh (.slice aP nP cP) (.slice aQ nQ cQ) (.slice aL nL cL) o (.slice va xs.length vc))
      have hT := h2.kept gR (.inr (fun e => row_block h2 (b := q1) (by omega) e.symm))
      have hNew := Lib.hid (show T.New w (.slice va xs.length vc) from fun k hk => Nat.le_trans UW2.size (row_base hT k hk))
      have hTab := Lib.hid (Tab.of_row (d := ((0, 0), 0, 0)) hT (by omega) (by omega))
      have C := Lib.hid (blk_setRow kR3 (WeC (N : Int) bl bh rl rh (.slice aP nP cP) (.slice aQ nQ cQ) (.slice aL nL cL) o (.slice va xs.length vc)))
      have UE' := Lib.hid UE
      clear UE gR hT h3
      go_wp2_with fail
      exact bodyPost_ret (results_w1 rfl _ _ _ _ rfl C.out rfl) rfl ⟨⟨va, xs.length, vc, rfl, by rw [HW'.out]; exact hTab.out, hNew.out⟩, UE'.out⟩
end

end Go.Proofs.Ytlpkheoljbdajaa
