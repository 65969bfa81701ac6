import Derived.Test.YtcmdaiklkdeanaaFew
import Derived.Laws.OwnMore
/- The contract of list. -/
namespace Go.Proofs.Ytcmdaiklkdeanaa
open Go.RowKit Go.Shelf
attribute [local go_sem] Oper.semAt_some

/-- the clocks of a set below one, strictly increasing -/
def T.lst (s : Nat → Bool) (k : Nat) : List Int := ((List.range k).filter s).map (Nat.cast : Nat → Int)
theorem T.lst_yes {s : Nat → Bool} {k : Nat} (h : s k = true) : T.lst s (k + 1) = T.lst s k ++ [(k : Int)] := by
  unfold T.lst
  rw [List.range_succ, List.filter_append, List.map_append]
  simp [h]
theorem T.lst_no {s : Nat → Bool} {k : Nat} (h : s k = false) : T.lst s (k + 1) = T.lst s k := by
  unfold T.lst
  rw [List.range_succ, List.filter_append, List.map_append]
  simp [h]
theorem T.lst_len (s : Nat → Bool) (k : Nat) : (T.lst s k).length ≤ k := by
  unfold T.lst
  rw [List.length_map]
  have := List.length_filter_le s (List.range k)
  rwa [List.length_range] at this
theorem T.idx (s : Nat → Bool) {c : Nat} (h : c < 5) (w : World) : (Instr.index 77 (.agg (T.bc s)) (.int .i64 c)).run Try.prog w = .ok (.bool (s c)) w := by
  have e0 : ∀ w, (Instr.index 77 (.agg (T.bc s)) (.int .i64 0)).run Try.prog w = .ok (.bool (s 0)) w := fun _ => by kernel_rfl
  have e1 : ∀ w, (Instr.index 77 (.agg (T.bc s)) (.int .i64 1)).run Try.prog w = .ok (.bool (s 1)) w := fun _ => by kernel_rfl
  have e2 : ∀ w, (Instr.index 77 (.agg (T.bc s)) (.int .i64 2)).run Try.prog w = .ok (.bool (s 2)) w := fun _ => by kernel_rfl
  have e3 : ∀ w, (Instr.index 77 (.agg (T.bc s)) (.int .i64 3)).run Try.prog w = .ok (.bool (s 3)) w := fun _ => by kernel_rfl
  have e4 : ∀ w, (Instr.index 77 (.agg (T.bc s)) (.int .i64 4)).run Try.prog w = .ok (.bool (s 4)) w := fun _ => by kernel_rfl
  match c, h with
  | 0, _ => exact e0 w
  | 1, _ => exact e1 w
  | 2, _ => exact e2 w
  | 3, _ => exact e3 w
  | 4, _ => exact e4 w
set_option maxRecDepth 100000 in
set_option maxHeartbeats 2000000 in
theorem list_any (s : Nat → Bool) (w : World) : Calls Try.prog 60 #[ClkV (s 0) (s 1) (s 2) (s 3) (s 4)] w fun e w' => (∃ v, e = .returned v ∧ Ints w' v (T.lst s 5)) ∧ Up w w' := by
  have HAT := Lib.hid (fun c (h : c < 5) w' => T.idx s h w')
  obtain ⟨x0, hx0⟩ : ∃ x, s 0 = x := ⟨_, rfl⟩
  obtain ⟨x1, hx1⟩ : ∃ x, s 1 = x := ⟨_, rfl⟩
  obtain ⟨x2, hx2⟩ : ∃ x, s 2 = x := ⟨_, rfl⟩
  obtain ⟨x3, hx3⟩ : ∃ x, s 3 = x := ⟨_, rfl⟩
  obtain ⟨x4, hx4⟩ : ∃ x, s 4 = x := ⟨_, rfl⟩
  have HX := Lib.hid (And.intro hx0 (And.intro hx1 (And.intro hx2 (And.intro hx3 hx4))))
  rw [hx0, hx1, hx2, hx3, hx4]
  clear hx0 hx1 hx2 hx3 hx4
  go_enter Try.func60, Try.ntmps60
  have U0 := (Up.refl w).alloc (.cells (ClkC x0 x1 x2 x3 x4) 77)
  have kx := blk_new w (.cells (ClkC x0 x1 x2 x3 x4) 77) _ rfl
  go_wp2_with fail
  generalize hW : w.alloc _ = W at U0 kx ⊢
  obtain ⟨q, hq⟩ : ∃ x, w.heap.size = x := ⟨_, rfl⟩
  rw [hq] at kx ⊢
  have hq1 : q ≤ W.heap.size := by rw [← hq]; exact U0.size
  go_loopw [3, 7] (fun v i wr => ∃ (k : Nat), k ≤ 5 ∧ i = .int .i64 k ∧ Up w wr ∧ wr.ownsRow q 3 1 v (T.lst s k).length ((T.lst s k).map (Value.int .i64)) ∧ q ≤ wr.heap.size) (fun _ i _ => 5 - (intOf i).toNat)
  case atStart => exact ⟨0, Nat.zero_le _, rfl, U0, by show W.ownsRow q 3 1 (.slice none 0 0) 0 []; exact World.ownsRow_nil _ _ _ _, hq1⟩
  case round =>
    clear kx U0
    obtain ⟨k, hk, rfl, V, hown, hq2⟩ := hrel
    by_cases hlt : k < 5
    · have d1 : decide (k < 5) = true := decide_eq_true hlt
      obtain ⟨x, hx⟩ : ∃ x, s k = x := ⟨_, rfl⟩
      have hat := HAT.out k hlt wr
      rw [hx] at hat
      have ew : IntKind.i64.wrap ((k : Int) + 1) = (k : Int) + 1 := IntWalk.i64_in _ (by omega)
      have hin : decide ((k : Int) < 5) = true := decide_eq_true (by omega)
      replace hat : (Instr.index 77 (.agg #[.bool (s 0), .bool (s 1), .bool (s 2), .bool (s 3), .bool (s 4)]) (.int .i64 k)).run Try.prog wr = .ok (.bool x) wr := hat
      rw [HX.out.1, HX.out.2.1, HX.out.2.2.1, HX.out.2.2.2.1, HX.out.2.2.2.2] at hat
      have HV := Lib.hid V
      have HO := Lib.hid hown
      have hll := T.lst_len s k
      cases x with
      | false =>
        have HN := Lib.hid (T.lst_no hx)
        clear hown V hx
        go_wp2
        refine ⟨⟨k + 1, by omega, rfl, HV.out, ?_, hq2⟩, by simp only [intOf]; omega⟩
        rw [HN.out]
        exact HO.out
      | true =>
        have HN := Lib.hid (T.lst_yes hx)
        clear hx V
        obtain ⟨i0, hi, hz0, hz1, hz2⟩ := info_parts Try.infoInt
        have hU := Try.underlying44
        go_wp2_with (at_builtin; refine wpList_append_own _ rfl (.tmp 12) (.tmp 14) 44 rfl q 3 i0 (.int .i64 0) 1 8 hU hi hz0 hz1 hz2 rfl (by decide) _ (T.lst s k).length _ rfl (hown.alloc _) ⟨wr.heap.size, 0, none⟩ 1 1 [.int .i64 k] rfl rfl (cell_one_new _ _ _) (by simp [Value.oneCell']) (by unfold maxLen; omega) (by omega) (by simp; omega) ?_; intro v' w6 hown6 hgrow6 hv6)
        refine ⟨⟨k + 1, by omega, rfl, (HV.out.alloc _).grown hgrow6 (fun b e => by have := row_base HO.out b e; omega), ?_, ?_⟩, by simp only [intOf]; omega⟩
        · rw [HN.out, List.length_append, List.map_append]
          exact hown6
        · have := hgrow6.size
          rw [sz1] at this
          omega
    · have d1 : decide (k < 5) = false := decide_eq_false hlt
      have hin : decide ((k : Int) < 5) = false := decide_eq_false (by omega)
      obtain rfl : k = 5 := by omega
      have HV := Lib.hid V
      have hll := T.lst_len s 5
      rcases hown.2 with ⟨rfl, hn⟩ | ⟨g, cap, cur, rfl, hg, hcu, hnc, hcm, hcz, hcc⟩
      · clear hown
        go_wp2
        go_ret
        refine ⟨⟨_, rfl, ?_⟩, HV.out⟩
        rw [List.eq_nil_of_length_eq_zero hn]
        exact Ints.nil _
      · obtain ⟨xs, hxs⟩ : ∃ x, T.lst s 5 = x := ⟨_, rfl⟩
        rw [hxs] at hll hnc hcc ⊢
        obtain ⟨n, hn⟩ : ∃ x, xs.length = x := ⟨_, rfl⟩
        have HC := Lib.hid (And.intro hcu hcc)
        have HN := Lib.hid hn
        have HXS := Lib.hid hxs
        rw [hn] at hll hnc ⊢
        clear hown V hxs hn hcc hcu hcz
        go_wp2
        go_ret
        obtain ⟨hcu, hcc⟩ := HC.out
        refine ⟨⟨_, rfl, ?_⟩, HV.out⟩
        rw [HXS.out, ← HN.out]
        refine Ints.new hcu (Nat.le_refl _) (by have := HN.out; omega) fun j hj => ?_
        have h1 : cur.toList[j]? = (cur.toList.take (xs.length * 1))[j]? := by rw [List.getElem?_take, if_pos (by omega)]
        rw [← Array.getElem?_toList, h1, hcc, List.getElem?_map, List.getElem?_eq_getElem hj, List.getD_eq_getElem?_getD, List.getElem?_eq_getElem hj]
        rfl

end Go.Proofs.Ytcmdaiklkdeanaa
