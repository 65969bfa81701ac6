import Derived.Test.YtcmdaiklkdeanaaClA
import Derived.Test.YtcmdaiklkdeanaaRws
import Derived.Test.YtcmdaiklkdeanaaHeQ
/- The contract of the laws' without. -/
namespace Go.Proofs.Ytcmdaiklkdeanaa
open Go.RowKit Go.Shelf
attribute [local go_sem] Oper.semAt_some

/-- is a comparison kept without the clocks of a list? -/
def T.kept (l : List Int) (x : Int × Int × Int × Int × Int) : Bool := decide (x.2.1 ∉ l) && (decide (x.2.2.1 < 0) || decide (x.2.2.1 ∉ l))
theorem T.kept_step {l : List Int} {ps : List (Int × Int × Int × Int × Int)} {j : Nat} (hj : j < ps.length) : (ps.take (j + 1)).filter (T.kept l) = (ps.take j).filter (T.kept l) ++ (if T.kept l (ps.getD j (0, 0, 0, 0, 0)) then [ps.getD j (0, 0, 0, 0, 0)] else []) := by
  have e : ps.getD j (0, 0, 0, 0, 0) = ps[j] := by rw [List.getD_eq_getElem?_getD, List.getElem?_eq_getElem hj]; rfl
  rw [List.take_add_one, List.getElem?_eq_getElem hj, List.filter_append, e]
  cases h : T.kept l ps[j] <;> simp [h]
section
variable {H : Nat} {aR aO aP : Option Addr} {nR cR nO cO nP cP : Nat} {ps : List (Int × Int × Int × Int × Int)} {ls : List Int}
set_option maxRecDepth 100000 in
set_option maxHeartbeats 4000000 in
theorem l_without_any {w : World} {vl : Value} (IP : Prs w (.slice aP nP cP) ps) (IL : Ints w vl ls) (h14 : ps.length ≤ 14) :
    Calls Try.prog 39 #[ClV H (.slice aR nR cR) (.slice aO nO cO) (.slice aP nP cP), vl] w fun e w' => (∃ a n c, e = .returned (ClV H (.slice aR nR cR) (.slice aO nO cO) (.slice a n c)) ∧ Prs w' (.slice a n c) (ps.filter (T.kept ls))) ∧ Up w w' := by
  have hn := IP.len
  subst hn
  have HP := Lib.hid (fun w' (u : Up w w') => IP.up u)
  have HF := Lib.hid (fun n w' (u : Up w w') => B_Find_any (IL.up u) n)
  clear IP IL
  go_enter Try.func39, Try.ntmps39
  obtain ⟨q0, e0⟩ : ∃ x, w.heap.size = x := ⟨_, rfl⟩
  have U := (((Up.refl w).alloc (.cells #[.int .i64 H, .slice aR nR cR, .slice aO nO cO, .slice aP ps.length cP] 26)).alloc (.cells #[.int .i64 0, .slice none 0 0, .slice none 0 0, .slice none 0 0] 26)).alloc (.cells #[.int .i64 H, .slice aR nR cR, .slice aO nO cO, .slice none 0 0] 26)
  have kC := blk_keep (.cells #[.int .i64 H, .slice aR nR cR, .slice aO nO cO, .slice none 0 0] 26) (blk_keep (.cells #[.int .i64 0, .slice none 0 0, .slice none 0 0, .slice none 0 0] 26) (blk_new w (.cells #[.int .i64 H, .slice aR nR cR, .slice aO nO cO, .slice aP ps.length cP] 26) q0 e0.symm))
  have kZ := blk_keep (.cells #[.int .i64 H, .slice aR nR cR, .slice aO nO cO, .slice none 0 0] 26) (blk_new (w.alloc (.cells #[.int .i64 H, .slice aR nR cR, .slice aO nO cO, .slice aP ps.length cP] 26)) (.cells #[.int .i64 0, .slice none 0 0, .slice none 0 0, .slice none 0 0] 26) (q0 + 1) (by simp [e0]))
  have kX := blk_new ((w.alloc (.cells #[.int .i64 H, .slice aR nR cR, .slice aO nO cO, .slice aP ps.length cP] 26)).alloc (.cells #[.int .i64 0, .slice none 0 0, .slice none 0 0, .slice none 0 0] 26)) (.cells #[.int .i64 H, .slice aR nR cR, .slice aO nO cO, .slice none 0 0] 26) (q0 + 1 + 1) (by simp [e0])
  go_wp2_with fail
  go_loopw [6] (fun i wr => ∃ (j n : Nat) (a : Option Addr) (c : Nat), j ≤ ps.length ∧ i = .int .i64 j ∧ Hid (wr.ownsRow (q0 + 3) 61 5 (.slice a n c) n (T.flat 5 T.encP ((ps.take j).filter (T.kept ls)))) ∧ n ≤ j ∧ Up w wr ∧ mblk wr q0 = some (.cells #[.int .i64 H, .slice aR nR cR, .slice aO nO cO, .slice aP ps.length cP] 26 (0, 0)) ∧ mblk wr (q0 + 1) = some (.cells #[.int .i64 0, .slice none 0 0, .slice none 0 0, .slice none 0 0] 26 (0, 0)) ∧ mblk wr (q0 + 1 + 1) = some (.cells #[.int .i64 H, .slice aR nR cR, .slice aO nO cO, .slice a n c] 26 (0, 0))) (fun i _ => ps.length - (intOf i).toNat)
  case atStart => exact ⟨0, 0, none, 0, Nat.zero_le _, rfl, Lib.hid ⟨rfl, .inl ⟨rfl, rfl⟩⟩, Nat.le_refl _, U, kC, kZ, kX⟩
  case round =>
    clear U kC kZ kX
    obtain ⟨j, n, a, c, hj, rfl, HO, hnj, U, kC, kZ, kX⟩ := hrel
    by_cases hlt : j < ps.length
    · have ew : IntKind.i64.wrap ((j : Int) + 1) = (j : Int) + 1 := IntWalk.i64_in _ (by omega)
      have dk : decide ((j : Int) < (ps.length : Int)) = true := decide_eq_true (by omega)
      have ilt : (j : Int) < (ps.length : Int) := by omega
      obtain ⟨a', c', e', _, _, hm⟩ := (HP.out _ U).is
      injection e' with ea eb ec
      clear eb ec
      obtain ⟨g, off, ga, gl, hx⟩ := hm (by omega)
      subst ea ga
      have st := T.kept_step (l := ls) hlt
      have cc0 := hx j hlt 0 (by omega)
      have cc1 := hx j hlt 1 (by omega)
      have cc2 := hx j hlt 2 (by omega)
      have cc3 := hx j hlt 3 (by omega)
      have cc4 := hx j hlt 4 (by omega)
      obtain ⟨⟨r0, r1, r2, r3, r4⟩, hss⟩ : ∃ s, ps.getD j (0, 0, 0, 0, 0) = s := ⟨_, rfl⟩
      rw [hss] at cc0 cc1 cc2 cc3 cc4 st
      replace cc0 : wr.cell? ⟨g, off + j * 5, none⟩ = some (.int .i64 r0) := cc0
      replace cc1 : wr.cell? ⟨g, off + j * 5 + 1, none⟩ = some (.int .i64 r1) := cc1
      replace cc2 : wr.cell? ⟨g, off + j * 5 + 2, none⟩ = some (.int .i64 r2) := cc2
      replace cc3 : wr.cell? ⟨g, off + j * 5 + 3, none⟩ = some (.int .i64 r3) := cc3
      replace cc4 : wr.cell? ⟨g, off + j * 5 + 4, none⟩ = some (.int .i64 r4) := cc4
      have HS := Lib.hid st
      clear hx hss hm st
      have i0 := kC
      have i1 := kX
      have lC := blk_lt kC
      have lX := blk_lt kX
      have kb := blk_new wr (.cells #[.int .i64 r0, .int .i64 r1, .int .i64 r2, .int .i64 r3, .int .i64 r4] 61) _ rfl
      replace kC := blk_keep (.cells #[.int .i64 r0, .int .i64 r1, .int .i64 r2, .int .i64 r3, .int .i64 r4] 61) kC
      replace kZ := blk_keep (.cells #[.int .i64 r0, .int .i64 r1, .int .i64 r2, .int .i64 r3, .int .i64 r4] 61) kZ
      replace kX := blk_keep (.cells #[.int .i64 r0, .int .i64 r1, .int .i64 r2, .int .i64 r3, .int .i64 r4] 61) kX
      replace U := U.alloc (.cells #[.int .i64 r0, .int .i64 r1, .int .i64 r2, .int .i64 r3, .int .i64 r4] 61)
      have HO := Lib.hid (HO.out.alloc (.cells #[.int .i64 r0, .int .i64 r1, .int .i64 r2, .int .i64 r3, .int .i64 r4] 61))
      obtain ⟨pb, hpb⟩ : ∃ z, wr.heap.size = z := ⟨_, rfl⟩
      obtain ⟨W9, hW9⟩ : ∃ z, wr.alloc (.cells #[.int .i64 r0, .int .i64 r1, .int .i64 r2, .int .i64 r3, .int .i64 r4] 61) = z := ⟨_, rfl⟩
      rw [hpb] at kb lC lX
      rw [hW9] at kb kC kZ kX U HO
      go_wp2_with fail
      clear hpb hW9 i0 i1 cc0 cc1 cc2 cc3 cc4
      refine (HF.out r1 _ U).mono ?_
      rintro e w9 ⟨⟨r, rfl, hr⟩, rfl⟩
      by_cases m1 : r1 ∈ ls
      · have d1 : decide (r < 0) = false := decide_eq_false (fun q => hr.1 q m1)
        have d1' : ¬ r < 0 := fun q => hr.1 q m1
        have ek : T.kept ls (r0, r1, r2, r3, r4) = false := by simp [T.kept, m1]
        have HO2 := Lib.hid (show W9.ownsRow (q0 + 3) 61 5 (.slice a n c) n (T.flat 5 T.encP ((ps.take (j + 1)).filter (T.kept ls))) by
          rw [HS.out, ek, if_neg (by decide), List.append_nil]
          exact HO.out)
        clear hr HO ek
        go_wp2_with fail
        go_roundw
        case rel => exact ⟨j + 1, n, a, c, by omega, by go_num, HO2, by omega, U, kC, kZ, kX⟩
        case measure => (simp only [intOf]; omega)
      · have d1 : decide (r < 0) = true := decide_eq_true (hr.2 m1)
        have d1' : r < 0 := hr.2 m1
        by_cases m0 : r2 < 0
        · have d2 : decide (r2 < 0) = true := decide_eq_true m0
          have ek : T.kept ls (r0, r1, r2, r3, r4) = true := by simp [T.kept, m1, m0]
          have HS2 := HS.out
          rw [ek, if_pos rfl] at HS2
          have HS3 := Lib.hid HS2
          clear hr ek HS2
          have i0 := kC
          have i1 := kX
          have i2 := kb
          have own0 := HO.out.alloc (.cells #[.int .i64 r0, .int .i64 r1, .int .i64 r2, .int .i64 r3, .int .i64 r4] 61)
          have jC := blk_keep (.cells #[.int .i64 r0, .int .i64 r1, .int .i64 r2, .int .i64 r3, .int .i64 r4] 61) kC
          have jZ := blk_keep (.cells #[.int .i64 r0, .int .i64 r1, .int .i64 r2, .int .i64 r3, .int .i64 r4] 61) kZ
          have jX := blk_keep (.cells #[.int .i64 r0, .int .i64 r1, .int .i64 r2, .int .i64 r3, .int .i64 r4] 61) kX
          have U1 := U.alloc (.cells #[.int .i64 r0, .int .i64 r1, .int .i64 r2, .int .i64 r3, .int .i64 r4] 61)
          have IN := T.one_pair W9 r0 r1 r2 r3 r4
          have hb1 : q0 + 3 ≤ W9.heap.size := by have := blk_lt kb; omega
          go_wp2_with (at_builtin; refine T.wpList_app T.elP rfl (.tmp 40) (.tmp 42) rfl IN rfl (q0 + 3) _ n rfl own0 (by omega) (by simp) (by simp; omega) ?_; intro v1 w1 own1 grow1; have rC := grown_blk grow1 jC (row_block own0 (by omega)); have rZ := grown_blk grow1 jZ (row_block own0 (by omega)); have rX := grown_blk grow1 jX (row_block own0 (by omega)); have U2 : Up w w1 := U1.grown grow1 (fun k e => by (have := row_base own0 k e; omega)); obtain ⟨a1, c1, rfl, _, _⟩ := row_val own1; have zx := frozB rX)
          have y1 : mblk (w1.setCell ⟨q0 + 1 + 1, 3, none⟩ (.slice a1 (n + 1) c1)) (q0 + 1 + 1) = some (.cells #[.int .i64 H, .slice aR nR cR, .slice aO nO cO, .slice a1 (n + 1) c1] 26 (0, 0)) := blk_put rX 3 _
          have y2 : mblk (w1.setCell ⟨q0 + 1 + 1, 3, none⟩ (.slice a1 (n + 1) c1)) q0 = some (.cells #[.int .i64 H, .slice aR nR cR, .slice aO nO cO, .slice (some ⟨g, off, none⟩) ps.length cP] 26 (0, 0)) := by rw [blk_set _ _ _ _ (by show q0 ≠ q0 + 1 + 1; omega)]; exact rC
          have y3 : mblk (w1.setCell ⟨q0 + 1 + 1, 3, none⟩ (.slice a1 (n + 1) c1)) (q0 + 1) = some (.cells #[.int .i64 0, .slice none 0 0, .slice none 0 0, .slice none 0 0] 26 (0, 0)) := by rw [blk_set _ _ _ _ (by show q0 + 1 ≠ q0 + 1 + 1; omega)]; exact rZ
          have U3 := U2.set (p := ⟨q0 + 1 + 1, 3, none⟩) (show w.heap.size ≤ q0 + 1 + 1 by omega) (.slice a1 (n + 1) c1)
          have HO2 := Lib.hid (show (w1.setCell ⟨q0 + 1 + 1, 3, none⟩ (.slice a1 (n + 1) c1)).ownsRow (q0 + 3) 61 5 (.slice a1 (n + 1) c1) (n + 1) (T.flat 5 T.encP ((ps.take (j + 1)).filter (T.kept ls))) by
            rw [HS3.out]
            exact row_other own1 (grown_set w1 (q0 + 1 + 1) 3 _) (row_block own1 (by omega)))
          clear own1 own0 grow1 IN jC jZ jX U1 U2 rC rZ rX i0 i1 i2 kb HO U kC kZ kX zx
          go_roundw
          case rel => exact ⟨j + 1, n + 1, a1, c1, by omega, by go_num, HO2, by omega, U3, y2, y3, y1⟩
          case measure => (simp only [intOf]; omega)
        · have d2 : decide (r2 < 0) = false := decide_eq_false m0
          have HF2 := Lib.hid (HF.out r2 _ U)
          clear hr
          go_wp2_with fail
          refine HF2.out.mono ?_
          rintro e w9 ⟨⟨r', rfl, hr⟩, rfl⟩
          by_cases m2 : r2 ∈ ls
          · have d3 : decide (r' < 0) = false := decide_eq_false (fun q => hr.1 q m2)
            have d3' : ¬ r' < 0 := fun q => hr.1 q m2
            have ek : T.kept ls (r0, r1, r2, r3, r4) = false := by simp [T.kept, m1, m0, m2]
            have HO2 := Lib.hid (show W9.ownsRow (q0 + 3) 61 5 (.slice a n c) n (T.flat 5 T.encP ((ps.take (j + 1)).filter (T.kept ls))) by
              rw [HS.out, ek, if_neg (by decide), List.append_nil]
              exact HO.out)
            clear hr HO ek
            go_wp2_with fail
            go_roundw
            case rel => exact ⟨j + 1, n, a, c, by omega, by go_num, HO2, by omega, U, kC, kZ, kX⟩
            case measure => (simp only [intOf]; omega)
          · have d3 : decide (r' < 0) = true := decide_eq_true (hr.2 m2)
            have d3' : r' < 0 := hr.2 m2
            have ek : T.kept ls (r0, r1, r2, r3, r4) = true := by simp [T.kept, m1, m2]
            have HS2 := HS.out
            rw [ek, if_pos rfl] at HS2
            have HS3 := Lib.hid HS2
            clear hr ek HS2
            have i0 := kC
            have i1 := kX
            have i2 := kb
            have own0 := HO.out.alloc (.cells #[.int .i64 r0, .int .i64 r1, .int .i64 r2, .int .i64 r3, .int .i64 r4] 61)
            have jC := blk_keep (.cells #[.int .i64 r0, .int .i64 r1, .int .i64 r2, .int .i64 r3, .int .i64 r4] 61) kC
            have jZ := blk_keep (.cells #[.int .i64 r0, .int .i64 r1, .int .i64 r2, .int .i64 r3, .int .i64 r4] 61) kZ
            have jX := blk_keep (.cells #[.int .i64 r0, .int .i64 r1, .int .i64 r2, .int .i64 r3, .int .i64 r4] 61) kX
            have U1 := U.alloc (.cells #[.int .i64 r0, .int .i64 r1, .int .i64 r2, .int .i64 r3, .int .i64 r4] 61)
            have IN := T.one_pair W9 r0 r1 r2 r3 r4
            have hb1 : q0 + 3 ≤ W9.heap.size := by have := blk_lt kb; omega
            go_wp2_with (at_builtin; refine T.wpList_app T.elP rfl (.tmp 40) (.tmp 42) rfl IN rfl (q0 + 3) _ n rfl own0 (by omega) (by simp) (by simp; omega) ?_; intro v1 w1 own1 grow1; have rC := grown_blk grow1 jC (row_block own0 (by omega)); have rZ := grown_blk grow1 jZ (row_block own0 (by omega)); have rX := grown_blk grow1 jX (row_block own0 (by omega)); have U2 : Up w w1 := U1.grown grow1 (fun k e => by (have := row_base own0 k e; omega)); obtain ⟨a1, c1, rfl, _, _⟩ := row_val own1; have zx := frozB rX)
            have y1 : mblk (w1.setCell ⟨q0 + 1 + 1, 3, none⟩ (.slice a1 (n + 1) c1)) (q0 + 1 + 1) = some (.cells #[.int .i64 H, .slice aR nR cR, .slice aO nO cO, .slice a1 (n + 1) c1] 26 (0, 0)) := blk_put rX 3 _
            have y2 : mblk (w1.setCell ⟨q0 + 1 + 1, 3, none⟩ (.slice a1 (n + 1) c1)) q0 = some (.cells #[.int .i64 H, .slice aR nR cR, .slice aO nO cO, .slice (some ⟨g, off, none⟩) ps.length cP] 26 (0, 0)) := by rw [blk_set _ _ _ _ (by show q0 ≠ q0 + 1 + 1; omega)]; exact rC
            have y3 : mblk (w1.setCell ⟨q0 + 1 + 1, 3, none⟩ (.slice a1 (n + 1) c1)) (q0 + 1) = some (.cells #[.int .i64 0, .slice none 0 0, .slice none 0 0, .slice none 0 0] 26 (0, 0)) := by rw [blk_set _ _ _ _ (by show q0 + 1 ≠ q0 + 1 + 1; omega)]; exact rZ
            have U3 := U2.set (p := ⟨q0 + 1 + 1, 3, none⟩) (show w.heap.size ≤ q0 + 1 + 1 by omega) (.slice a1 (n + 1) c1)
            have HO2 := Lib.hid (show (w1.setCell ⟨q0 + 1 + 1, 3, none⟩ (.slice a1 (n + 1) c1)).ownsRow (q0 + 3) 61 5 (.slice a1 (n + 1) c1) (n + 1) (T.flat 5 T.encP ((ps.take (j + 1)).filter (T.kept ls))) by
              rw [HS3.out]
              exact row_other own1 (grown_set w1 (q0 + 1 + 1) 3 _) (row_block own1 (by omega)))
            clear own1 own0 grow1 IN jC jZ jX U1 U2 rC rZ rX i0 i1 i2 kb HO U kC kZ kX zx
            go_roundw
            case rel => exact ⟨j + 1, n + 1, a1, c1, by omega, by go_num, HO2, by omega, U3, y2, y3, y1⟩
            case measure => (simp only [intOf]; omega)
    · obtain rfl : j = ps.length := by omega
      have dk : decide ((ps.length : Int) < (ps.length : Int)) = false := decide_eq_false (by omega)
      have own := HO.out
      rw [List.take_length] at own
      have zz := frozB kZ
      have lZ := blk_lt kZ
      have ownZ : World.ownsRow ((((wr.setCell ⟨q0 + 1, 0, none⟩ (.int .i64 H)).setCell ⟨q0 + 1, 1, none⟩ (.slice aR nR cR)).setCell ⟨q0 + 1, 2, none⟩ (.slice aO nO cO)).setCell ⟨q0 + 1, 3, none⟩ (.slice a n c)) (q0 + 3) 61 5 (.slice a n c) n (T.flat 5 T.encP (ps.filter (T.kept ls))) := (row_other (row_other (row_other (row_other own (grown_set _ (q0 + 1) 0 (.int .i64 H)) (row_block own (by omega))) (grown_set _ (q0 + 1) 1 (.slice aR nR cR)) (row_block (row_other own (grown_set _ (q0 + 1) 0 (.int .i64 H)) (row_block own (by omega))) (by omega))) (grown_set _ (q0 + 1) 2 (.slice aO nO cO)) (row_block (row_other (row_other own (grown_set _ (q0 + 1) 0 (.int .i64 H)) (row_block own (by omega))) (grown_set _ (q0 + 1) 1 (.slice aR nR cR)) (row_block (row_other own (grown_set _ (q0 + 1) 0 (.int .i64 H)) (row_block own (by omega))) (by omega))) (by omega))) (grown_set _ (q0 + 1) 3 (.slice a n c)) (row_block (row_other (row_other (row_other own (grown_set _ (q0 + 1) 0 (.int .i64 H)) (row_block own (by omega))) (grown_set _ (q0 + 1) 1 (.slice aR nR cR)) (row_block (row_other own (grown_set _ (q0 + 1) 0 (.int .i64 H)) (row_block own (by omega))) (by omega))) (grown_set _ (q0 + 1) 2 (.slice aO nO cO)) (row_block (row_other (row_other own (grown_set _ (q0 + 1) 0 (.int .i64 H)) (row_block own (by omega))) (grown_set _ (q0 + 1) 1 (.slice aR nR cR)) (row_block (row_other own (grown_set _ (q0 + 1) 0 (.int .i64 H)) (row_block own (by omega))) (by omega))) (by omega))) (by omega)))
      have HIN := Lib.hid (show Prs ((((wr.setCell ⟨q0 + 1, 0, none⟩ (.int .i64 H)).setCell ⟨q0 + 1, 1, none⟩ (.slice aR nR cR)).setCell ⟨q0 + 1, 2, none⟩ (.slice aO nO cO)).setCell ⟨q0 + 1, 3, none⟩ (.slice a n c)) (.slice a n c) (ps.filter (T.kept ls)) from Tab.of_row ownZ (by decide) (by omega))
      have KZ := Lib.hid (show mblk ((((wr.setCell ⟨q0 + 1, 0, none⟩ (.int .i64 H)).setCell ⟨q0 + 1, 1, none⟩ (.slice aR nR cR)).setCell ⟨q0 + 1, 2, none⟩ (.slice aO nO cO)).setCell ⟨q0 + 1, 3, none⟩ (.slice a n c)) (q0 + 1) = some (.cells #[.int .i64 H, .slice aR nR cR, .slice aO nO cO, .slice a n c] 26 (0, 0)) from (blk_put (blk_put (blk_put (blk_put kZ 0 (.int .i64 H)) 1 (.slice aR nR cR)) 2 (.slice aO nO cO)) 3 (.slice a n c)))
      have UZ := Lib.hid ((((U.set (p := ⟨q0 + 1, 0, none⟩) (show w.heap.size ≤ q0 + 1 by omega) (.int .i64 H)).set (p := ⟨q0 + 1, 1, none⟩) (show w.heap.size ≤ q0 + 1 by omega) (.slice aR nR cR)).set (p := ⟨q0 + 1, 2, none⟩) (show w.heap.size ≤ q0 + 1 by omega) (.slice aO nO cO)).set (p := ⟨q0 + 1, 3, none⟩) (show w.heap.size ≤ q0 + 1 by omega) (.slice a n c))
      clear HO hlt hj own ownZ
      go_wp2_with fail
      have cc := cellB KZ.out
      exact bodyPost_ret (v := ClV H (.slice aR nR cR) (.slice aO nO cO) (.slice a n c)) (by simp [results, Try.results39, go_sem, cc]) rfl ⟨⟨a, n, c, rfl, HIN.out⟩, UZ.out⟩
end

end Go.Proofs.Ytcmdaiklkdeanaa
