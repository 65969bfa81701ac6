import Derived.Test.YtcmdaiklkdeanaaMom
/- The contracts of the iterators rates, steps and comparedAt. -/
namespace Go.Proofs.Ytcmdaiklkdeanaa
open Go.RowKit Go.Shelf
attribute [local go_sem] Oper.semAt_some

/-- a tie as it is told: two moments, and a span -/
abbrev T.T6 := Int × Int × Int × Int × Int × Int
abbrev T.tv (x : T.T6) : Value := TiV x.1 x.2.1 x.2.2.1 x.2.2.2.1 x.2.2.2.2.1 x.2.2.2.2.2
def T.rate (rs : List (Int × Int)) (k h : Nat) : T.T6 := ((k : Int), (h : Int) + 1, (k : Int), (h : Int), (rs.getD k (0, 0)).1, (rs.getD k (0, 0)).2)
def T.rates (rs : List (Int × Int)) (H : Nat) : List T.T6 := T.nest (T.rate rs) H rs.length 0
section
variable {H : Nat} {aR aO aP : Option Addr} {nR cR nO cO nP cP : Nat} {b0 b1 b2 b3 b4 : Bool}
theorem limits_any (w : World) : Calls Try.prog 107 #[CeV H (.slice aR nR cR) (.slice aO nO cO) (.slice aP nP cP) b0 b1 b2 b3 b4] w fun e w' =>
    e = .returned (.func (.func 115) #[] #[.pointer (some ⟨w.heap.size, 0, none⟩)]) ∧ w.alloc (.cells (CeC H (.slice aR nR cR) (.slice aO nO cO) (.slice aP nP cP) b0 b1 b2 b3 b4) 79) = w' := by
  go_enter Try.func107, Try.ntmps107
  go_wp2
  go_ret
  exact ⟨rfl, rfl⟩
theorem rates_any (w : World) : Calls Try.prog 109 #[CeV H (.slice aR nR cR) (.slice aO nO cO) (.slice aP nP cP) b0 b1 b2 b3 b4] w fun e w' =>
    e = .returned (.func (.func 116) #[] #[.pointer (some ⟨w.heap.size, 0, none⟩)]) ∧ w.alloc (.cells (CeC H (.slice aR nR cR) (.slice aO nO cO) (.slice aP nP cP) b0 b1 b2 b3 b4) 79) = w' := by
  go_enter Try.func109, Try.ntmps109
  go_wp2
  go_ret
  exact ⟨rfl, rfl⟩
theorem steps_any (w : World) : Calls Try.prog 110 #[CeV H (.slice aR nR cR) (.slice aO nO cO) (.slice aP nP cP) b0 b1 b2 b3 b4] w fun e w' =>
    e = .returned (.func (.func 117) #[] #[.pointer (some ⟨w.heap.size, 0, none⟩)]) ∧ w.alloc (.cells (CeC H (.slice aR nR cR) (.slice aO nO cO) (.slice aP nP cP) b0 b1 b2 b3 b4) 79) = w' := by
  go_enter Try.func110, Try.ntmps110
  go_wp2
  go_ret
  exact ⟨rfl, rfl⟩
theorem comparisons_any (w : World) : Calls Try.prog 112 #[CeV H (.slice aR nR cR) (.slice aO nO cO) (.slice aP nP cP) b0 b1 b2 b3 b4] w fun e w' =>
    e = .returned (.func (.func 119) #[] #[.pointer (some ⟨w.heap.size, 0, none⟩)]) ∧ w.alloc (.cells (CeC H (.slice aR nR cR) (.slice aO nO cO) (.slice aP nP cP) b0 b1 b2 b3 b4) 79) = w' := by
  go_enter Try.func112, Try.ntmps112
  go_wp2
  go_ret
  exact ⟨rfl, rfl⟩
theorem comparedAt_any (h : Int) (w : World) : Calls Try.prog 120 #[CeV H (.slice aR nR cR) (.slice aO nO cO) (.slice aP nP cP) b0 b1 b2 b3 b4, .int .i64 h] w fun e w' =>
    e = .returned (.func (.func 121) #[] #[.pointer (some ⟨w.heap.size, 0, none⟩), .pointer (some ⟨w.heap.size + 1, 0, none⟩)]) ∧ (w.alloc (.cells (CeC H (.slice aR nR cR) (.slice aO nO cO) (.slice aP nP cP) b0 b1 b2 b3 b4) 79)).alloc (.cells #[.int .i64 h] 3) = w' := by
  go_enter Try.func120, Try.ntmps120
  go_wp2
  go_ret
  exact ⟨rfl, rfl⟩

set_option maxRecDepth 100000 in
set_option maxHeartbeats 1000000 in
theorem rates1_in (hH : H ≤ 12) (hR : nR ≤ 5) {m : Nat} (hm : 1 ≤ m) {l B : Nat} {p : Nat → Prop} {w0 : World} {rs : List (Int × Int)} (I : Sps w0 (.slice aR nR cR) rs) (J Jx : List T.T6 → World → Prop) (W : World) (hw0 : T.Sm w0 W) (hp : ∀ b, p b → w0.heap.size ≤ b) (hpq : ∀ b, W.heap.size ≤ b → ¬ p b) (hne : ¬ p B) (kB : mblk W B = some (.cells (CeC H (.slice aR nR cR) (.slice aO nO cO) (.slice aP nP cP) b0 b1 b2 b3 b4) 79 (0, 0)))
    (hJ : ∀ s X Y, J s X → Up X Y → J s Y)
    (hY : ∀ pre (x : T.T6) X, J pre X → pre ++ [x] <+: T.rates rs H → YieldAt Fence.wide (m - 1) Try.prog l #[T.tv x] X fun e Y =>
      (e = .returned (.bool true) ∧ J (pre ++ [x]) Y ∧ T.Kc p X Y) ∨ (e = .returned (.bool false) ∧ Jx (pre ++ [x]) Y))
    (h0 : J [] W) :
    CallsIn Fence.wide m Try.prog 116 #[.func (.yield l) #[] #[], .pointer (some ⟨B, 0, none⟩)] W fun e Y => (∃ v, e = .returned v) ∧
      ((∃ xs, xs = T.rates rs H ∧ J xs Y) ∨ (∃ pre, pre <+: T.rates rs H ∧ Jx pre Y)) := by
  have HY := Lib.hid hY
  have HJ := Lib.hid hJ
  have HP := Lib.hid hp
  clear hY hJ hp
  refine callsIn_of_wp Try.func116 rfl trivial ?_ rfl
  simp only [Try.ntmps116, List.size_toArray, List.length_cons, List.length_nil, Nat.reduceAdd, Nat.reduceSub, Array.replicate_succ, Array.replicate_zero, List.push_toArray, List.append_toArray, List.nil_append, List.cons_append]
  have hn := I.len
  subst hn
  have HI := Lib.hid I
  clear I
  gi_wp2_with fail
  gi_loopw [10] (fun t wr => ∃ k : Nat, k ≤ rs.length ∧ t = .int .i64 k ∧ J (T.nest (T.rate rs) H k 0) wr ∧ mblk wr B = some (.cells (CeC H (.slice aR rs.length cR) (.slice aO nO cO) (.slice aP nP cP) b0 b1 b2 b3 b4) 79 (0, 0)) ∧ T.Sm w0 wr ∧ W.heap.size ≤ wr.heap.size) (fun t _ => rs.length - (intOf t).toNat)
  case atStart => exact ⟨0, Nat.zero_le _, rfl, h0, kB, hw0, Nat.le_refl _⟩
  case round =>
    clear h0 kB hw0
    obtain ⟨k, hk, rfl, hJs, kk, hsm, hsz⟩ := hrel
    by_cases hlt : k < rs.length
    · obtain ⟨a1, c1, e1, _, hl, hm1⟩ := (HI.out.sm hsm).is
      injection e1 with e1 e2 e3
      subst e1 e3
      clear e2
      obtain ⟨g, off, rfl, gl, hc⟩ := hm1 (by omega)
      have x0 := hc k hlt 0 (by omega)
      have x1 := hc k hlt 1 (by omega)
      have htr0 := Lib.hid (show ∀ h : Nat, T.rate rs k h = ((k : Int), (h : Int) + 1, (k : Int), (h : Int), (rs.getD k (0, 0)).1, (rs.getD k (0, 0)).2) from fun _ => rfl)
      generalize rs.getD k (0, 0) = z at *
      obtain ⟨lo, hi⟩ := z
      simp only [T.encS, Nat.add_zero] at x0 x1
      clear hc hm1
      have lk := blk_lt kk
      gi_wp2_with fail
      obtain ⟨q, hqe⟩ : ∃ q, wr.heap.size = q := ⟨_, rfl⟩
      have kq := blk_new wr (.cells #[.int .i64 lo, .int .i64 hi] 34) q hqe.symm
      have kk2 := blk_keep (.cells #[.int .i64 lo, .int .i64 hi] 34) kk
      have sm2 := hsm.trans (T.Sm.of ((Up.refl wr).alloc (.cells #[.int .i64 lo, .int .i64 hi] 34)))
      have J2 := HJ.out _ _ _ hJs ((Up.refl wr).alloc (.cells #[.int .i64 lo, .int .i64 hi] 34))
      have hq := hpq q (by omega)
      rw [hqe]
      obtain ⟨W2, hW2⟩ : ∃ x, wr.alloc (.cells #[.int .i64 lo, .int .i64 hi] 34) = x := ⟨_, rfl⟩
      rw [hW2] at kq kk2 sm2 J2 ⊢
      have sz2 : W.heap.size ≤ W2.heap.size := by rw [← hW2]; simp; omega
      clear hJs kk hsm hW2 hqe hsz
      gi_loopw [18] (fun t wr => ∃ h : Nat, h ≤ H ∧ t = .int .i64 h ∧ J (T.nest (T.rate rs) H k h) wr ∧ mblk wr B = some (.cells (CeC H (.slice (some ⟨g, off, none⟩) rs.length cR) (.slice aO nO cO) (.slice aP nP cP) b0 b1 b2 b3 b4) 79 (0, 0)) ∧ (T.Sm w0 wr ∧ W.heap.size ≤ wr.heap.size) ∧ mblk wr q = some (.cells #[.int .i64 lo, .int .i64 hi] 34 (0, 0))) (fun t _ => H - (intOf t).toNat)
      case atStart => exact ⟨0, Nat.zero_le _, rfl, J2, kk2, ⟨sm2, sz2⟩, kq⟩
      case round =>
        clear J2 kk2 sm2 kq sz2
        obtain ⟨h, hh, rfl, hJs, kk, ⟨hsm, hsz⟩, kq⟩ := hrel
        by_cases hlt2 : h < H
        · have ln := Lib.hid (show T.nest (T.rate rs) H k h ++ [T.rate rs k h] <+: T.rates rs H by rw [T.nest_h]; exact T.nest_pre hlt hlt2)
          have htr := Lib.hid (htr0.out h)
          have HA1 := Lib.hid (fun w => at_clock (k : Int) ((h : Int) + 1) w (by omega))
          have HA2 := Lib.hid (fun w => at_clock (k : Int) (h : Int) w (by omega))
          have ew : IntKind.i64.wrap ((h : Int) + 1) = (h : Int) + 1 := IntWalk.i64_in _ (by omega)
          gi_wp2_with fail
          refine wpIn_nrm ?_
          refine regionG (fun w' => ((T.Sm w0 w' ∧ W.heap.size ≤ w'.heap.size) ∧ J (T.nest (T.rate rs) H k h) w') ∧ mblk w' B = some (.cells (CeC H (.slice (some ⟨g, off, none⟩) rs.length cR) (.slice aO nO cO) (.slice aP nP cP) b0 b1 b2 b3 b4) 79 (0, 0)) ∧ mblk w' q = some (.cells #[.int .i64 lo, .int .i64 hi] 34 (0, 0))) 10 (by kernel_rfl) ⟨⟨⟨hsm.trans (T.Sm.of (Up.refl wr).drew), hsz⟩, HJ.out _ _ _ hJs (Up.refl wr).drew⟩, by rw [blk_drew]; exact kk, by rw [blk_drew]; exact kq⟩ (fun hHeld hCl => ?_)
          clear hJs kk hsm kq
          refine takeG (i := 0) (d := (some 21)) (v := ?v1) rfl rfl (by kernel_rfl) (by kernel_rfl) (by decide) hCl (by kernel_rfl) (by kernel_rfl) (by kernel_rfl) (fun _ _ _ h => h) (by rfl) ?hy1 (fun _ _ _ => trivial) (by assumption) (fun hCl' => ?_)
          case hy1 => ((intro w hSw; (try dsimp only at hSw); (try go_split_ands); go_simp); try with_reducible rfl)
          simp only [Act.put, List.setIfInBounds_toArray, List.set_cons_zero, List.set_cons_succ]
          replace hCl := hCl'; clear hCl'
          refine takeG (i := 1) (d := (some 22)) (v := ?v2) rfl rfl (by kernel_rfl) (by kernel_rfl) (by decide) hCl (by kernel_rfl) (by kernel_rfl) (by kernel_rfl) (fun _ _ _ h => h) (by rfl) ?hy2 (fun _ _ _ => trivial) (by assumption) (fun hCl' => ?_)
          case hy2 => ((intro w hSw; (try dsimp only at hSw); (try go_split_ands); go_simp); try with_reducible rfl)
          simp only [Act.put, List.setIfInBounds_toArray, List.set_cons_zero, List.set_cons_succ]
          replace hCl := hCl'; clear hCl'
          refine takeG (i := 2) (d := (some 23)) (v := ?v3) rfl rfl (by kernel_rfl) (by kernel_rfl) (by decide) hCl (by kernel_rfl) (by kernel_rfl) (by kernel_rfl) (fun _ _ _ h => h) (by rfl) ?hy3 (fun _ _ _ => trivial) (by assumption) (fun hCl' => ?_)
          case hy3 => ((intro w hSw; (try dsimp only at hSw); (try go_split_ands); go_simp); try with_reducible rfl)
          simp only [Act.put, List.setIfInBounds_toArray, List.set_cons_zero, List.set_cons_succ]
          replace hCl := hCl'; clear hCl'
          refine takeG (i := 5) (d := (some 26)) (v := ?v4) rfl rfl (by kernel_rfl) (by kernel_rfl) (by decide) hCl (by kernel_rfl) (by kernel_rfl) (by kernel_rfl) (fun _ _ _ h => h) (by rfl) ?hy4 (fun _ _ _ => trivial) (by assumption) (fun hCl' => ?_)
          case hy4 => ((intro w hSw; (try dsimp only at hSw); (try go_split_ands); go_simp); try with_reducible rfl)
          simp only [Act.put, List.setIfInBounds_toArray, List.set_cons_zero, List.set_cons_succ]
          replace hCl := hCl'; clear hCl'
          refine takeG (i := 6) (d := (some 27)) (v := ?v5) rfl rfl (by kernel_rfl) (by kernel_rfl) (by decide) hCl (by kernel_rfl) (by kernel_rfl) (by kernel_rfl) (fun _ _ _ h => h) (by rfl) ?hy5 (fun _ _ _ => trivial) (by assumption) (fun hCl' => ?_)
          case hy5 => ((intro w hSw; (try dsimp only at hSw); (try go_split_ands); go_simp); try with_reducible rfl)
          simp only [Act.put, List.setIfInBounds_toArray, List.set_cons_zero, List.set_cons_succ]
          replace hCl := hCl'; clear hCl'
          refine takeG (i := 8) (d := (some 29)) (v := ?v6) rfl rfl (by kernel_rfl) (by kernel_rfl) (by decide) hCl (by kernel_rfl) (by kernel_rfl) (by kernel_rfl) (fun _ _ _ h => h) (by rfl) ?hy6 (fun _ _ _ => trivial) (by assumption) (fun hCl' => ?_)
          case hy6 => ((intro w hSw; (try dsimp only at hSw); (try go_split_ands); go_simp); try with_reducible rfl)
          simp only [Act.put, List.setIfInBounds_toArray, List.set_cons_zero, List.set_cons_succ]
          replace hCl := hCl'; clear hCl'
          refine takeG (i := 3) (d := (some 24)) (v := ?v7) rfl rfl (by kernel_rfl) (by kernel_rfl) (by decide) hCl (by kernel_rfl) (by kernel_rfl) (by kernel_rfl) (fun _ _ _ h => h) (by rfl) ?hy7 (fun _ _ _ => trivial) (by assumption) (fun hCl' => ?_)
          case hy7 => ((intro w hSw; (try dsimp only at hSw); (try go_split_ands); go_simp); try with_reducible rfl)
          simp only [Act.put, List.setIfInBounds_toArray, List.set_cons_zero, List.set_cons_succ]
          replace hCl := hCl'; clear hCl'
          clear ew
          refine nextG (i := 4) (by kernel_rfl) rfl (by rfl) hCl (fun K hK => ?_)
          go_simp
          refine ⟨trivial, (callsIn_wide.2 (HA1.out _)).mono ?_⟩
          rintro e y1 ⟨rfl, u⟩
          refine hK.out _ _ ⟨⟨⟨hHeld.1.1.1.trans (T.Sm.of u), Nat.le_trans hHeld.1.1.2 u.size⟩, HJ.out _ _ _ hHeld.1.2 u⟩, u.blk hHeld.2.1, u.blk hHeld.2.2⟩ (fun hHeld hCl => ?_)
          clear hK K u
          try simp only [Act.put, List.setIfInBounds_toArray, List.set_cons_zero, List.set_cons_succ]
          refine nextG (i := 7) (by kernel_rfl) rfl (by rfl) hCl (fun K hK => ?_)
          go_simp
          refine ⟨trivial, (callsIn_wide.2 (HA2.out _)).mono ?_⟩
          rintro e y2 ⟨rfl, u⟩
          refine hK.out _ _ ⟨⟨⟨hHeld.1.1.1.trans (T.Sm.of u), Nat.le_trans hHeld.1.1.2 u.size⟩, HJ.out _ _ _ hHeld.1.2 u⟩, u.blk hHeld.2.1, u.blk hHeld.2.2⟩ (fun hHeld hCl => ?_)
          clear hK K u
          try simp only [Act.put, List.setIfInBounds_toArray, List.set_cons_zero, List.set_cons_succ]
          obtain ⟨fn, tmps, assign, body, hy, hRR⟩ := HY.out _ (T.rate rs k h) y2 hHeld.1.2 ln.out
          rw [htr.out] at hy
          refine takeG (i := 9) (d := (some 30)) (v := ?v10) rfl rfl (by kernel_rfl) (by kernel_rfl) (by decide) hCl (by kernel_rfl) (by kernel_rfl) (by kernel_rfl) (fun _ _ _ h => h) (by rfl) ?hy10 (fun _ _ _ => trivial) (by assumption) (fun hCl' => ?_)
          case hy10 => ((intro w hSw; (try dsimp only at hSw); (try go_split_ands); go_simp); try with_reducible rfl)
          simp only [Act.put, List.setIfInBounds_toArray, List.set_cons_zero, List.set_cons_succ]
          replace hCl := hCl'; clear hCl'
          have s4 := hHeld.1.1.1
          have z4 := hHeld.1.1.2
          have k4 := hHeld.2.1
          have q4 := hHeld.2.2
          clear hHeld hCl
          refine lastG (i := 10) (by kernel_rfl) rfl (by rfl) (by decide) (fun K hK => ?_)
          go_simp
          refine hRR.mono ?_
          rintro e w5 (⟨rfl, hJ5, hk5⟩ | ⟨rfl, hJx5⟩)
          · have s5 := T.Sm.kc s4 HP.out hk5
            have z5 := Nat.le_trans z4 hk5.2
            have k5 := hk5.blk k4 hne
            have q5 := hk5.blk q4 hq
            rw [T.nest_h] at hJ5
            clear hRR hy k4 q4 s4 z4 hk5
            refine hK.out _ _ ?_
            clear hK K
            refine lastG (i := 11) (by kernel_rfl) rfl (by rfl) (by decide) (fun K hK => ?_)
            go_simp
            refine hK.out _ _ ?_
            clear hK K
            refine doneG (by kernel_rfl) ?_ _
            refine S.nrm_intro ?_
            gi_wp2
            go_roundw
            case rel => exact ⟨h + 1, by omega, by go_num, hJ5, k5, ⟨s5, z5⟩, q5⟩
            case measure => simp [intOf]; omega
          · rw [T.nest_h] at hJx5
            clear hRR hy k4 q4 s4 z4
            refine hK.out _ _ ?_
            clear hK K
            refine lastG (i := 11) (by kernel_rfl) rfl (by rfl) (by decide) (fun K hK => ?_)
            go_simp
            refine hK.out _ _ ?_
            clear hK K
            refine doneG (by kernel_rfl) ?_ _
            refine S.nrm_intro ?_
            gi_wp2
            refine bodyPost_ret (results_none rfl _ _ _) rfl ?_
            exact ⟨⟨_, rfl⟩, .inr ⟨_, T.nest_pre hlt (by omega), hJx5⟩⟩
        · obtain rfl : h = H := by omega
          rw [T.nest_k] at hJs
          gi_wp2
          go_roundw
          case rel => exact ⟨k + 1, by omega, by go_num, hJs, kk, hsm, hsz⟩
          case measure => simp [intOf]; omega
    · obtain rfl : k = rs.length := by omega
      gi_wp2
      go_end0
      exact ⟨⟨_, rfl⟩, .inl ⟨_, rfl, hJs⟩⟩
/-- the iterator's contract -/
theorem rates1_stops (hH : H ≤ 12) (hR : nR ≤ 5) {m : Nat} (hm : 1 ≤ m) {B : Nat} {p : Nat → Prop} {w0 w : World} {rs : List (Int × Int)} (I : Sps w0 (.slice aR nR cR) rs) (hw0 : T.Sm w0 w) (hp : ∀ b, p b → w0.heap.size ≤ b) (hpq : ∀ b, w.heap.size ≤ b → ¬ p b) (hne : ¬ p B) (kB : mblk w B = some (.cells (CeC H (.slice aR nR cR) (.slice aO nO cO) (.slice aP nP cP) b0 b1 b2 b3 b4) 79 (0, 0))) :
    SeqStopsK Fence.wide m Try.prog 116 #[.pointer (some ⟨B, 0, none⟩)]
      (fun x : T.T6 => #[T.tv x]) (T.Kc p) (fun xs => xs = T.rates rs H) (fun pre => pre <+: T.rates rs H) (T.rates rs H).length w := by
  intro l J Jx W hW hJ _ hY h0
  have uW : Up w W := hW
  exact rates1_in hH hR hm I J Jx W (hw0.trans (T.Sm.of uW)) hp (fun b hb => hpq b (Nat.le_trans uW.size hb)) hne ((Below.block hW B (blk_lt kB)).trans kB)
    (fun s X Y hX hU => hJ s X Y none hX ⟨hU.os, hU.tape, hU.output, hU.size, fun j hj _ => Below.block hU j hj⟩ (by simp)) (fun pre x X h1 h2 => hY pre x X h1 (T.pre_lt h2)) h0
def T.step (x : Int × Int × Int × Int) : T.T6 := (x.1, x.2.1 + 1, x.1, x.2.1, x.2.2.1, x.2.2.2)
def T.steps (os : List (Int × Int × Int × Int)) : List T.T6 := os.map T.step
theorem T.map_take {α β : Type} {f : α → β} {d : α} {xs : List α} {k : Nat} (hk : k < xs.length) : (xs.take k).map f ++ [f (xs.getD k d)] = (xs.take (k + 1)).map f := by
  rw [List.take_succ_eq_append_getElem hk, List.map_append, List.getD_eq_getElem?_getD, List.getElem?_eq_getElem hk]
  rfl
theorem T.map_pre {α β : Type} {f : α → β} {xs : List α} (k : Nat) : (xs.take k).map f <+: xs.map f := by
  refine ⟨(xs.drop k).map f, ?_⟩
  rw [← List.map_append, List.take_append_drop]

set_option maxRecDepth 100000 in
set_option maxHeartbeats 1000000 in
theorem steps1_in  {m : Nat} (hm : 1 ≤ m) {l B : Nat} {p : Nat → Prop} {w0 : World} {os : List (Int × Int × Int × Int)} (I : Ops w0 (.slice aO nO cO) os) (hos : ∀ x ∈ os, 0 ≤ x.1 ∧ x.1 ≤ 5 ∧ 0 ≤ x.2.1 ∧ x.2.1 ≤ 12) (J Jx : List T.T6 → World → Prop) (W : World) (hw0 : T.Sm w0 W) (hp : ∀ b, p b → w0.heap.size ≤ b) (_hpq : ∀ b, W.heap.size ≤ b → ¬ p b) (hne : ¬ p B) (kB : mblk W B = some (.cells (CeC H (.slice aR nR cR) (.slice aO nO cO) (.slice aP nP cP) b0 b1 b2 b3 b4) 79 (0, 0)))
    (hJ : ∀ s X Y, J s X → Up X Y → J s Y)
    (hY : ∀ pre (x : T.T6) X, J pre X → pre ++ [x] <+: T.steps os → YieldAt Fence.wide (m - 1) Try.prog l #[T.tv x] X fun e Y =>
      (e = .returned (.bool true) ∧ J (pre ++ [x]) Y ∧ T.Kc p X Y) ∨ (e = .returned (.bool false) ∧ Jx (pre ++ [x]) Y))
    (h0 : J [] W) :
    CallsIn Fence.wide m Try.prog 117 #[.func (.yield l) #[] #[], .pointer (some ⟨B, 0, none⟩)] W fun e Y => (∃ v, e = .returned v) ∧
      ((∃ xs, xs = T.steps os ∧ J xs Y) ∨ (∃ pre, pre <+: T.steps os ∧ Jx pre Y)) := by
  have HY := Lib.hid hY
  have HJ := Lib.hid hJ
  have HP := Lib.hid hp
  clear hY hJ hp
  refine callsIn_of_wp Try.func117 rfl trivial ?_ rfl
  simp only [Try.ntmps117, List.size_toArray, List.length_cons, List.length_nil, Nat.reduceAdd, Nat.reduceSub, Array.replicate_succ, Array.replicate_zero, List.push_toArray, List.append_toArray, List.nil_append, List.cons_append]
  have hn := I.len
  subst hn
  have HI := Lib.hid I
  have HOS := Lib.hid hos
  clear I hos
  gi_wp2_with fail
  gi_loopw [9] (fun t wr => ∃ k : Nat, k ≤ os.length ∧ t = .int .i64 k ∧ J ((os.take k).map T.step) wr ∧ mblk wr B = some (.cells (CeC H (.slice aR nR cR) (.slice aO os.length cO) (.slice aP nP cP) b0 b1 b2 b3 b4) 79 (0, 0)) ∧ T.Sm w0 wr ∧ W.heap.size ≤ wr.heap.size) (fun t _ => os.length - (intOf t).toNat)
  case atStart => exact ⟨0, Nat.zero_le _, rfl, h0, kB, hw0, Nat.le_refl _⟩
  case round =>
    clear h0 kB hw0
    obtain ⟨k, hk, rfl, hJs, kk, hsm, hsz⟩ := hrel
    by_cases hlt : k < os.length
    · obtain ⟨a1, c1, e1, _, hl, hm1⟩ := (HI.out.sm hsm).is
      injection e1 with e1 e2 e3
      subst e1 e3
      clear e2
      obtain ⟨g, off, rfl, gl, hc⟩ := hm1 (by omega)
      have x0 := hc k hlt 0 (by omega)
      have x1 := hc k hlt 1 (by omega)
      have x2 := hc k hlt 2 (by omega)
      have x3 := hc k hlt 3 (by omega)
      have tk := Lib.hid (T.map_take (f := T.step) (d := (0, 0, 0, 0)) hlt)
      have hb := HOS.out (os.getD k (0, 0, 0, 0)) (by rw [List.getD_eq_getElem?_getD, List.getElem?_eq_getElem hlt]; exact List.getElem_mem hlt)
      generalize os.getD k (0, 0, 0, 0) = z at *
      obtain ⟨c, h, lo, hi⟩ := z
      replace tk := Lib.hid (show (os.take k).map T.step ++ [(c, h + 1, c, h, lo, hi)] = (os.take (k + 1)).map T.step from tk.out)
      have ln := Lib.hid (show (os.take k).map T.step ++ [(c, h + 1, c, h, lo, hi)] <+: T.steps os by rw [tk.out]; exact T.map_pre (k + 1))
      simp only [T.encO, Nat.add_zero] at x0 x1 x2 x3 hb
      obtain ⟨hb1, hb2, hb3, hb4⟩ := hb
      clear hc hm1
      have lk := blk_lt kk
      have ew : IntKind.i64.wrap (h + 1) = h + 1 := IntWalk.i64_in _ (by omega)
      have HA1 := Lib.hid (fun w => at_clock c (h + 1) w (by omega))
      have HA2 := Lib.hid (fun w => at_clock c h w (by omega))
      gi_wp2_with fail
      obtain ⟨q, hqe⟩ : ∃ q, wr.heap.size = q := ⟨_, rfl⟩
      have kq := blk_new wr (.cells #[.int .i64 c, .int .i64 h, .int .i64 lo, .int .i64 hi] 63) q hqe.symm
      have kk2 := blk_keep (.cells #[.int .i64 c, .int .i64 h, .int .i64 lo, .int .i64 hi] 63) kk
      have sm2 := hsm.trans (T.Sm.of ((Up.refl wr).alloc (.cells #[.int .i64 c, .int .i64 h, .int .i64 lo, .int .i64 hi] 63)))
      have J2 := HJ.out _ _ _ hJs ((Up.refl wr).alloc (.cells #[.int .i64 c, .int .i64 h, .int .i64 lo, .int .i64 hi] 63))
      rw [hqe]
      obtain ⟨W2, hW2⟩ : ∃ x, wr.alloc (.cells #[.int .i64 c, .int .i64 h, .int .i64 lo, .int .i64 hi] 63) = x := ⟨_, rfl⟩
      have sz2 : W.heap.size ≤ W2.heap.size := by rw [← hW2]; simp; omega
      rw [hW2] at kq kk2 sm2 J2 ⊢
      clear hJs kk hsm hW2 hqe hsz lk x0 x1 x2 x3
      refine wpIn_nrm ?_
      refine regionG (fun w' => ((T.Sm w0 w' ∧ W.heap.size ≤ w'.heap.size) ∧ J ((os.take k).map T.step) w') ∧ mblk w' B = some (.cells (CeC H (.slice aR nR cR) (.slice (some ⟨g, off, none⟩) os.length cO) (.slice aP nP cP) b0 b1 b2 b3 b4) 79 (0, 0)) ∧ mblk w' q = some (.cells #[.int .i64 c, .int .i64 h, .int .i64 lo, .int .i64 hi] 63 (0, 0))) 15 (by kernel_rfl) ⟨⟨⟨sm2.trans (T.Sm.of (Up.refl W2).drew), sz2⟩, HJ.out _ _ _ J2 (Up.refl W2).drew⟩, by rw [blk_drew]; exact kk2, by rw [blk_drew]; exact kq⟩ (fun hHeld hCl => ?_)
      clear J2 kk2 sm2 kq
      refine takeG (i := 0) (d := (some 13)) (v := ?v14) rfl rfl (by kernel_rfl) (by kernel_rfl) (by decide) hCl (by kernel_rfl) (by kernel_rfl) (by kernel_rfl) (fun _ _ _ h => h) (by rfl) ?hy14 (fun _ _ _ => trivial) (by assumption) (fun hCl' => ?_)
      case hy14 => ((intro w hSw; (try dsimp only at hSw); (try go_split_ands); go_simp); try with_reducible rfl)
      simp only [Act.put, List.setIfInBounds_toArray, List.set_cons_zero, List.set_cons_succ]
      replace hCl := hCl'; clear hCl'
      refine takeG (i := 1) (d := (some 14)) (v := ?v15) rfl rfl (by kernel_rfl) (by kernel_rfl) (by decide) hCl (by kernel_rfl) (by kernel_rfl) (by kernel_rfl) (fun _ _ _ h => h) (by rfl) ?hy15 (fun _ _ _ => trivial) (by assumption) (fun hCl' => ?_)
      case hy15 => ((intro w hSw; (try dsimp only at hSw); (try go_split_ands); go_simp); try with_reducible rfl)
      simp only [Act.put, List.setIfInBounds_toArray, List.set_cons_zero, List.set_cons_succ]
      replace hCl := hCl'; clear hCl'
      refine takeG (i := 3) (d := (some 16)) (v := ?v16) rfl rfl (by kernel_rfl) (by kernel_rfl) (by decide) hCl (by kernel_rfl) (by kernel_rfl) (by kernel_rfl) (fun _ _ _ h => h) (by rfl) ?hy16 (fun _ _ _ => trivial) (by assumption) (fun hCl' => ?_)
      case hy16 => ((intro w hSw; (try dsimp only at hSw); (try go_split_ands); go_simp); try with_reducible rfl)
      simp only [Act.put, List.setIfInBounds_toArray, List.set_cons_zero, List.set_cons_succ]
      replace hCl := hCl'; clear hCl'
      refine takeG (i := 7) (d := (some 20)) (v := ?v17) rfl rfl (by kernel_rfl) (by kernel_rfl) (by decide) hCl (by kernel_rfl) (by kernel_rfl) (by kernel_rfl) (fun _ _ _ h => h) (by rfl) ?hy17 (fun _ _ _ => trivial) (by assumption) (fun hCl' => ?_)
      case hy17 => ((intro w hSw; (try dsimp only at hSw); (try go_split_ands); go_simp); try with_reducible rfl)
      simp only [Act.put, List.setIfInBounds_toArray, List.set_cons_zero, List.set_cons_succ]
      replace hCl := hCl'; clear hCl'
      refine takeG (i := 9) (d := (some 22)) (v := ?v18) rfl rfl (by kernel_rfl) (by kernel_rfl) (by decide) hCl (by kernel_rfl) (by kernel_rfl) (by kernel_rfl) (fun _ _ _ h => h) (by rfl) ?hy18 (fun _ _ _ => trivial) (by assumption) (fun hCl' => ?_)
      case hy18 => ((intro w hSw; (try dsimp only at hSw); (try go_split_ands); go_simp); try with_reducible rfl)
      simp only [Act.put, List.setIfInBounds_toArray, List.set_cons_zero, List.set_cons_succ]
      replace hCl := hCl'; clear hCl'
      refine takeG (i := 12) (d := (some 25)) (v := ?v19) rfl rfl (by kernel_rfl) (by kernel_rfl) (by decide) hCl (by kernel_rfl) (by kernel_rfl) (by kernel_rfl) (fun _ _ _ h => h) (by rfl) ?hy19 (fun _ _ _ => trivial) (by assumption) (fun hCl' => ?_)
      case hy19 => ((intro w hSw; (try dsimp only at hSw); (try go_split_ands); go_simp); try with_reducible rfl)
      simp only [Act.put, List.setIfInBounds_toArray, List.set_cons_zero, List.set_cons_succ]
      replace hCl := hCl'; clear hCl'
      refine takeG (i := 2) (d := (some 15)) (v := ?v20) rfl rfl (by kernel_rfl) (by kernel_rfl) (by decide) hCl (by kernel_rfl) (by kernel_rfl) (by kernel_rfl) (fun _ _ _ h => h) (by rfl) ?hy20 (fun _ _ _ => trivial) (by assumption) (fun hCl' => ?_)
      case hy20 => ((intro w hSw; (try dsimp only at hSw); (try go_split_ands); go_simp); try with_reducible rfl)
      simp only [Act.put, List.setIfInBounds_toArray, List.set_cons_zero, List.set_cons_succ]
      replace hCl := hCl'; clear hCl'
      refine takeG (i := 4) (d := (some 17)) (v := ?v21) rfl rfl (by kernel_rfl) (by kernel_rfl) (by decide) hCl (by kernel_rfl) (by kernel_rfl) (by kernel_rfl) (fun _ _ _ h => h) (by rfl) ?hy21 (fun _ _ _ => trivial) (by assumption) (fun hCl' => ?_)
      case hy21 => ((intro w hSw; (try dsimp only at hSw); (try go_split_ands); go_simp); try with_reducible rfl)
      simp only [Act.put, List.setIfInBounds_toArray, List.set_cons_zero, List.set_cons_succ]
      replace hCl := hCl'; clear hCl'
      refine takeG (i := 8) (d := (some 21)) (v := ?v22) rfl rfl (by kernel_rfl) (by kernel_rfl) (by decide) hCl (by kernel_rfl) (by kernel_rfl) (by kernel_rfl) (fun _ _ _ h => h) (by rfl) ?hy22 (fun _ _ _ => trivial) (by assumption) (fun hCl' => ?_)
      case hy22 => ((intro w hSw; (try dsimp only at hSw); (try go_split_ands); go_simp); try with_reducible rfl)
      simp only [Act.put, List.setIfInBounds_toArray, List.set_cons_zero, List.set_cons_succ]
      replace hCl := hCl'; clear hCl'
      refine takeG (i := 10) (d := (some 23)) (v := ?v23) rfl rfl (by kernel_rfl) (by kernel_rfl) (by decide) hCl (by kernel_rfl) (by kernel_rfl) (by kernel_rfl) (fun _ _ _ h => h) (by rfl) ?hy23 (fun _ _ _ => trivial) (by assumption) (fun hCl' => ?_)
      case hy23 => ((intro w hSw; (try dsimp only at hSw); (try go_split_ands); go_simp); try with_reducible rfl)
      simp only [Act.put, List.setIfInBounds_toArray, List.set_cons_zero, List.set_cons_succ]
      replace hCl := hCl'; clear hCl'
      refine takeG (i := 13) (d := (some 26)) (v := ?v24) rfl rfl (by kernel_rfl) (by kernel_rfl) (by decide) hCl (by kernel_rfl) (by kernel_rfl) (by kernel_rfl) (fun _ _ _ h => h) (by rfl) ?hy24 (fun _ _ _ => trivial) (by assumption) (fun hCl' => ?_)
      case hy24 => ((intro w hSw; (try dsimp only at hSw); (try go_split_ands); go_simp); try with_reducible rfl)
      simp only [Act.put, List.setIfInBounds_toArray, List.set_cons_zero, List.set_cons_succ]
      replace hCl := hCl'; clear hCl'
      refine takeG (i := 5) (d := (some 18)) (v := ?v25) rfl rfl (by kernel_rfl) (by kernel_rfl) (by decide) hCl (by kernel_rfl) (by kernel_rfl) (by kernel_rfl) (fun _ _ _ h => h) (by rfl) ?hy25 (fun _ _ _ => trivial) (by assumption) (fun hCl' => ?_)
      case hy25 => ((intro w hSw; (try dsimp only at hSw); (try go_split_ands); go_simp); try with_reducible rfl)
      simp only [Act.put, List.setIfInBounds_toArray, List.set_cons_zero, List.set_cons_succ]
      replace hCl := hCl'; clear hCl'
      clear ew
      refine nextG (i := 6) (by kernel_rfl) rfl (by rfl) hCl (fun K hK => ?_)
      go_simp
      refine ⟨trivial, (callsIn_wide.2 (HA1.out _)).mono ?_⟩
      rintro e y1 ⟨rfl, u⟩
      refine hK.out _ _ ⟨⟨⟨hHeld.1.1.1.trans (T.Sm.of u), Nat.le_trans hHeld.1.1.2 u.size⟩, HJ.out _ _ _ hHeld.1.2 u⟩, u.blk hHeld.2.1, u.blk hHeld.2.2⟩ (fun hHeld hCl => ?_)
      clear hK K u
      try simp only [Act.put, List.setIfInBounds_toArray, List.set_cons_zero, List.set_cons_succ]
      refine nextG (i := 11) (by kernel_rfl) rfl (by rfl) hCl (fun K hK => ?_)
      go_simp
      refine ⟨trivial, (callsIn_wide.2 (HA2.out _)).mono ?_⟩
      rintro e y2 ⟨rfl, u⟩
      refine hK.out _ _ ⟨⟨⟨hHeld.1.1.1.trans (T.Sm.of u), Nat.le_trans hHeld.1.1.2 u.size⟩, HJ.out _ _ _ hHeld.1.2 u⟩, u.blk hHeld.2.1, u.blk hHeld.2.2⟩ (fun hHeld hCl => ?_)
      clear hK K u
      try simp only [Act.put, List.setIfInBounds_toArray, List.set_cons_zero, List.set_cons_succ]
      obtain ⟨fn, tmps, assign, body, hy, hRR⟩ := HY.out _ (c, h + 1, c, h, lo, hi) y2 hHeld.1.2 ln.out
      refine takeG (i := 14) (d := (some 27)) (v := ?v28) rfl rfl (by kernel_rfl) (by kernel_rfl) (by decide) hCl (by kernel_rfl) (by kernel_rfl) (by kernel_rfl) (fun _ _ _ h => h) (by rfl) ?hy28 (fun _ _ _ => trivial) (by assumption) (fun hCl' => ?_)
      case hy28 => ((intro w hSw; (try dsimp only at hSw); (try go_split_ands); go_simp); try with_reducible rfl)
      simp only [Act.put, List.setIfInBounds_toArray, List.set_cons_zero, List.set_cons_succ]
      replace hCl := hCl'; clear hCl'
      have s4 := hHeld.1.1.1
      have z4 := hHeld.1.1.2
      have k4 := hHeld.2.1
      clear hHeld hCl
      refine lastG (i := 15) (by kernel_rfl) rfl (by rfl) (by decide) (fun K hK => ?_)
      go_simp
      refine hRR.mono ?_
      rintro e w5 (⟨rfl, hJ5, hk5⟩ | ⟨rfl, hJx5⟩)
      · have s5 := T.Sm.kc s4 HP.out hk5
        have z5 := Nat.le_trans z4 hk5.2
        have k5 := hk5.blk k4 hne
        rw [tk.out] at hJ5
        clear hRR hy k4 s4 z4 hk5
        refine hK.out _ _ ?_
        clear hK K
        refine lastG (i := 16) (by kernel_rfl) rfl (by rfl) (by decide) (fun K hK => ?_)
        go_simp
        refine hK.out _ _ ?_
        clear hK K
        refine doneG (by kernel_rfl) ?_ _
        refine S.nrm_intro ?_
        gi_wp2
        go_roundw
        case rel => exact ⟨k + 1, by omega, by go_num, hJ5, k5, s5, z5⟩
        case measure => simp [intOf]; omega
      · rw [tk.out] at hJx5
        clear hRR hy k4 s4 z4
        refine hK.out _ _ ?_
        clear hK K
        refine lastG (i := 16) (by kernel_rfl) rfl (by rfl) (by decide) (fun K hK => ?_)
        go_simp
        refine hK.out _ _ ?_
        clear hK K
        refine doneG (by kernel_rfl) ?_ _
        refine S.nrm_intro ?_
        gi_wp2
        refine bodyPost_ret (results_none rfl _ _ _) rfl ?_
        exact ⟨⟨_, rfl⟩, .inr ⟨_, T.map_pre (k + 1), hJx5⟩⟩
    · obtain rfl : k = os.length := by omega
      rw [List.take_length] at hJs
      gi_wp2
      go_end0
      exact ⟨⟨_, rfl⟩, .inl ⟨_, rfl, hJs⟩⟩
/-- the iterator's contract -/
theorem steps1_stops  {m : Nat} (hm : 1 ≤ m) {B : Nat} {p : Nat → Prop} {w0 w : World} {os : List (Int × Int × Int × Int)} (I : Ops w0 (.slice aO nO cO) os) (hos : ∀ x ∈ os, 0 ≤ x.1 ∧ x.1 ≤ 5 ∧ 0 ≤ x.2.1 ∧ x.2.1 ≤ 12) (hw0 : T.Sm w0 w) (hp : ∀ b, p b → w0.heap.size ≤ b) (hpq : ∀ b, w.heap.size ≤ b → ¬ p b) (hne : ¬ p B) (kB : mblk w B = some (.cells (CeC H (.slice aR nR cR) (.slice aO nO cO) (.slice aP nP cP) b0 b1 b2 b3 b4) 79 (0, 0))) :
    SeqStopsK Fence.wide m Try.prog 117 #[.pointer (some ⟨B, 0, none⟩)]
      (fun x : T.T6 => #[T.tv x]) (T.Kc p) (fun xs => xs = T.steps os) (fun pre => pre <+: T.steps os) (T.steps os).length w := by
  intro l J Jx W hW hJ _ hY h0
  have uW : Up w W := hW
  exact steps1_in  hm I hos J Jx W (hw0.trans (T.Sm.of uW)) hp (fun b hb => hpq b (Nat.le_trans uW.size hb)) hne ((Below.block hW B (blk_lt kB)).trans kB)
    (fun s X Y hX hU => hJ s X Y none hX ⟨hU.os, hU.tape, hU.output, hU.size, fun j hj _ => Below.block hU j hj⟩ (by simp)) (fun pre x X h1 h2 => hY pre x X h1 (T.pre_lt h2)) h0
/-- is a clock one of those that are left out? -/
def T.has (b0 b1 b2 b3 b4 : Bool) (c : Int) : Bool := if c = 0 then b0 else if c = 1 then b1 else if c = 2 then b2 else if c = 3 then b3 else if c = 4 then b4 else false
set_option maxRecDepth 100000 in
theorem has_any (c : Int) (w : World) (h1 : -1 ≤ c) (h2 : c ≤ 4) : Calls Try.prog 122 #[.agg #[.bool b0, .bool b1, .bool b2, .bool b3, .bool b4], .int .i64 c] w fun e w' => e = .returned (.bool (T.has b0 b1 b2 b3 b4 c)) ∧ Up w w' := by
  have U := (Up.refl w).alloc (.cells #[.bool b0, .bool b1, .bool b2, .bool b3, .bool b4] 77)
  have : c = -1 ∨ c = 0 ∨ c = 1 ∨ c = 2 ∨ c = 3 ∨ c = 4 := by omega
  rcases this with rfl | rfl | rfl | rfl | rfl | rfl
  all_goals
    clear h1 h2
    go_enter Try.func122, Try.ntmps122
    go_wp2
    go_ret
    exact ⟨rfl, U⟩
/-- is a comparison one of an hour that is not left out? -/
def T.isAt (b0 b1 b2 b3 b4 : Bool) (h : Int) (x : Int × Int × Int × Int × Int) : Bool := x.1 == h && (!T.has b0 b1 b2 b3 b4 x.2.1 && !T.has b0 b1 b2 b3 b4 x.2.2.1)
theorem T.fil_take {α : Type} {P : α → Bool} {d : α} {xs : List α} {k : Nat} (hk : k < xs.length) : (xs.take (k + 1)).filter P = (xs.take k).filter P ++ (if P (xs.getD k d) then [xs.getD k d] else []) := by
  rw [List.take_succ_eq_append_getElem hk, List.filter_append, List.getD_eq_getElem?_getD, List.getElem?_eq_getElem hk]
  congr 1
  simp only [List.filter_cons, List.filter_nil, Option.getD_some]
theorem T.fil_pre {α : Type} {P : α → Bool} {xs : List α} (k : Nat) : (xs.take k).filter P <+: xs.filter P := by
  refine ⟨(xs.drop k).filter P, ?_⟩
  rw [← List.filter_append, List.take_append_drop]

set_option maxRecDepth 100000 in
set_option maxHeartbeats 1000000 in
theorem comparedAt1_in  {m : Nat} (hm : 1 ≤ m) {l B : Nat} {p : Nat → Prop} {w0 : World} {ps : List (Int × Int × Int × Int × Int)} (I : Prs w0 (.slice aP nP cP) ps) (hps : ∀ x ∈ ps, 0 ≤ x.2.1 ∧ x.2.1 ≤ 4 ∧ -1 ≤ x.2.2.1 ∧ x.2.2.1 ≤ 4) {hr : Int} (J Jx : List (Int × Int × Int × Int × Int) → World → Prop) (W : World) (hw0 : T.Sm w0 W) (hp : ∀ b, p b → w0.heap.size ≤ b) (_hpq : ∀ b, W.heap.size ≤ b → ¬ p b) (hne : ¬ p B) (kB : mblk W B = some (.cells (CeC H (.slice aR nR cR) (.slice aO nO cO) (.slice aP nP cP) b0 b1 b2 b3 b4) 79 (0, 0))) {B2 : Nat} (hne2 : ¬ p B2) (kB2 : mblk W B2 = some (.cells #[.int .i64 hr] 3 (0, 0)))
    (hJ : ∀ s X Y, J s X → Up X Y → J s Y)
    (hY : ∀ pre (x : (Int × Int × Int × Int × Int)) X, J pre X → pre ++ [x] <+: ps.filter (T.isAt b0 b1 b2 b3 b4 hr) → YieldAt Fence.wide (m - 1) Try.prog l #[.agg #[.int .i64 x.1, .int .i64 x.2.1, .int .i64 x.2.2.1, .int .i64 x.2.2.2.1, .int .i64 x.2.2.2.2]] X fun e Y =>
      (e = .returned (.bool true) ∧ J (pre ++ [x]) Y ∧ T.Kc p X Y) ∨ (e = .returned (.bool false) ∧ Jx (pre ++ [x]) Y))
    (h0 : J [] W) :
    CallsIn Fence.wide m Try.prog 121 #[.func (.yield l) #[] #[], .pointer (some ⟨B, 0, none⟩), .pointer (some ⟨B2, 0, none⟩)] W fun e Y => (∃ v, e = .returned v) ∧
      ((∃ xs, xs = ps.filter (T.isAt b0 b1 b2 b3 b4 hr) ∧ J xs Y) ∨ (∃ pre, pre <+: ps.filter (T.isAt b0 b1 b2 b3 b4 hr) ∧ Jx pre Y)) := by
  have HY := Lib.hid hY
  have HJ := Lib.hid hJ
  have HP := Lib.hid hp
  clear hY hJ hp
  refine callsIn_of_wp Try.func121 rfl trivial ?_ rfl
  simp only [Try.ntmps121, List.size_toArray, List.length_cons, List.length_nil, Nat.reduceAdd, Nat.reduceSub, Array.replicate_succ, Array.replicate_zero, List.push_toArray, List.append_toArray, List.nil_append, List.cons_append]
  have hn := I.len
  subst hn
  have HI := Lib.hid I
  have HPS := Lib.hid hps
  clear I hps
  gi_wp2_with fail
  gi_loopw [10] (fun t wr => ∃ k : Nat, k ≤ ps.length ∧ t = .int .i64 k ∧ J ((ps.take k).filter (T.isAt b0 b1 b2 b3 b4 hr)) wr ∧ mblk wr B = some (.cells (CeC H (.slice aR nR cR) (.slice aO nO cO) (.slice aP ps.length cP) b0 b1 b2 b3 b4) 79 (0, 0)) ∧ mblk wr B2 = some (.cells #[.int .i64 hr] 3 (0, 0)) ∧ T.Sm w0 wr ∧ W.heap.size ≤ wr.heap.size) (fun t _ => ps.length - (intOf t).toNat)
  case atStart => exact ⟨0, Nat.zero_le _, rfl, h0, kB, kB2, hw0, Nat.le_refl _⟩
  case round =>
    clear h0 kB hw0 kB2
    obtain ⟨k, hk, rfl, hJs, kk, kb, hsm, hsz⟩ := hrel
    by_cases hlt : k < ps.length
    · obtain ⟨a1, c1, e1, _, hl, hm1⟩ := (HI.out.sm hsm).is
      injection e1 with e1 e2 e3
      subst e1 e3
      clear e2
      obtain ⟨g, off, rfl, gl, hc⟩ := hm1 (by omega)
      have x0 := hc k hlt 0 (by omega)
      have x1 := hc k hlt 1 (by omega)
      have x2 := hc k hlt 2 (by omega)
      have x3 := hc k hlt 3 (by omega)
      have x4 := hc k hlt 4 (by omega)
      have tk0 := Lib.hid (T.fil_take (P := T.isAt b0 b1 b2 b3 b4 hr) (d := (0, 0, 0, 0, 0)) hlt)
      have hb := HPS.out (ps.getD k (0, 0, 0, 0, 0)) (by rw [List.getD_eq_getElem?_getD, List.getElem?_eq_getElem hlt]; exact List.getElem_mem hlt)
      have hmem : Hid (ps.getD k (0, 0, 0, 0, 0) = ps[k]) := by rw [List.getD_eq_getElem?_getD, List.getElem?_eq_getElem hlt]; rfl
      have lnn : T.isAt b0 b1 b2 b3 b4 hr (ps.getD k (0, 0, 0, 0, 0)) = true → (ps.take k).filter (T.isAt b0 b1 b2 b3 b4 hr) ++ [ps.getD k (0, 0, 0, 0, 0)] <+: ps.filter (T.isAt b0 b1 b2 b3 b4 hr) := fun e => by
        have h1 := T.fil_pre (P := T.isAt b0 b1 b2 b3 b4 hr) (xs := ps) (k + 1)
        rw [tk0.out, if_pos e] at h1
        exact h1
      clear hmem
      have LNN := Lib.hid lnn
      clear lnn
      generalize ps.getD k (0, 0, 0, 0, 0) = z at *
      obtain ⟨ph, pa, pb, lo, hi⟩ := z
      simp only [T.encP, Nat.add_zero] at x0 x1 x2 x3 x4 hb
      obtain ⟨hb1, hb2, hb3, hb4⟩ := hb
      clear hc hm1
      have lk := blk_lt kk
      have lb := blk_lt kb
      have E := Lib.hid (show T.isAt b0 b1 b2 b3 b4 hr (ph, pa, pb, lo, hi) = (ph == hr && (!T.has b0 b1 b2 b3 b4 pa && !T.has b0 b1 b2 b3 b4 pb)) from rfl)
      have HA1 := Lib.hid (fun w => has_any (b0 := b0) (b1 := b1) (b2 := b2) (b3 := b3) (b4 := b4) pa w (by omega) (by omega))
      have HA2 := Lib.hid (fun w => has_any (b0 := b0) (b1 := b1) (b2 := b2) (b3 := b3) (b4 := b4) pb w (by omega) (by omega))
      generalize T.has b0 b1 b2 b3 b4 pa = r1 at *
      generalize T.has b0 b1 b2 b3 b4 pb = r2 at *
      have kq := blk_new wr (.cells #[.int .i64 ph, .int .i64 pa, .int .i64 pb, .int .i64 lo, .int .i64 hi] 61) wr.heap.size rfl
      have kk2 := blk_keep (.cells #[.int .i64 ph, .int .i64 pa, .int .i64 pb, .int .i64 lo, .int .i64 hi] 61) kk
      have kb2 := blk_keep (.cells #[.int .i64 ph, .int .i64 pa, .int .i64 pb, .int .i64 lo, .int .i64 hi] 61) kb
      have sm2 := hsm.trans (T.Sm.of ((Up.refl wr).alloc (.cells #[.int .i64 ph, .int .i64 pa, .int .i64 pb, .int .i64 lo, .int .i64 hi] 61)))
      have J2 := HJ.out _ _ _ hJs ((Up.refl wr).alloc (.cells #[.int .i64 ph, .int .i64 pa, .int .i64 pb, .int .i64 lo, .int .i64 hi] 61))
      have sz2 : W.heap.size ≤ (wr.alloc (.cells #[.int .i64 ph, .int .i64 pa, .int .i64 pb, .int .i64 lo, .int .i64 hi] 61)).heap.size := by simp; omega
      clear hJs hsm hsz
      by_cases e1 : ph = hr
      · have g1 : (ph == hr) = true := beq_iff_eq.2 e1
        have g2 : (ph != hr) = false := by simp [bne, g1]
        rw [g1, Bool.true_and] at E
        clear e1
        cases r1 with
        | true =>
          rw [Bool.not_true, Bool.false_and] at E
          rw [E.out, if_neg Bool.false_ne_true, List.append_nil] at tk0
          clear HA2 LNN E
          gi_wp2_with fail
          refine ⟨trivial, (callsIn_wide.2 (HA1.out _)).mono ?_⟩
          rintro e y1 ⟨rfl, u⟩
          replace kq := u.blk kq
          replace kk2 := u.blk kk2
          replace kb2 := u.blk kb2
          replace sm2 := sm2.trans (T.Sm.of u)
          replace sz2 := Nat.le_trans sz2 u.size
          replace J2 := HJ.out _ _ _ J2 u
          clear u
          have hJn := J2
          rw [← tk0.out] at hJn
          have kn := kk2
          have kn2 := kb2
          have sn := sm2
          have zn := sz2
          clear J2 kk2 kb2 sm2 sz2
          gi_wp2_with (refine ⟨trivial, ?_⟩)
          go_roundw
          case rel => exact ⟨k + 1, by omega, by go_num, hJn, kn, kn2, sn, zn⟩
          case measure => simp [intOf]; omega
        | false =>
          rw [Bool.not_false, Bool.true_and] at E
          cases r2 with
          | true =>
            rw [Bool.not_true] at E
            rw [E.out, if_neg Bool.false_ne_true, List.append_nil] at tk0
            clear LNN E
            gi_wp2_with fail
            refine ⟨trivial, (callsIn_wide.2 (HA1.out _)).mono ?_⟩
            rintro e y1 ⟨rfl, u⟩
            replace kq := u.blk kq
            replace kk2 := u.blk kk2
            replace kb2 := u.blk kb2
            replace sm2 := sm2.trans (T.Sm.of u)
            replace sz2 := Nat.le_trans sz2 u.size
            replace J2 := HJ.out _ _ _ J2 u
            clear u
            gi_wp2_with fail
            refine ⟨trivial, (callsIn_wide.2 (HA2.out _)).mono ?_⟩
            rintro e y2 ⟨rfl, u⟩
            replace kq := u.blk kq
            replace kk2 := u.blk kk2
            replace kb2 := u.blk kb2
            replace sm2 := sm2.trans (T.Sm.of u)
            replace sz2 := Nat.le_trans sz2 u.size
            replace J2 := HJ.out _ _ _ J2 u
            clear u
            have hJn := J2
            rw [← tk0.out] at hJn
            have kn := kk2
            have kn2 := kb2
            have sn := sm2
            have zn := sz2
            clear J2 kk2 kb2 sm2 sz2
            gi_wp2_with (refine ⟨trivial, ?_⟩)
            go_roundw
            case rel => exact ⟨k + 1, by omega, by go_num, hJn, kn, kn2, sn, zn⟩
            case measure => simp [intOf]; omega
          | false =>
            rw [Bool.not_false] at E
            rw [E.out, if_pos rfl] at tk0
            have ln := Lib.hid (LNN.out E.out)
            clear LNN E
            gi_wp2_with fail
            refine ⟨trivial, (callsIn_wide.2 (HA1.out _)).mono ?_⟩
            rintro e y1 ⟨rfl, u⟩
            replace kq := u.blk kq
            replace kk2 := u.blk kk2
            replace kb2 := u.blk kb2
            replace sm2 := sm2.trans (T.Sm.of u)
            replace sz2 := Nat.le_trans sz2 u.size
            replace J2 := HJ.out _ _ _ J2 u
            clear u
            gi_wp2_with fail
            refine ⟨trivial, (callsIn_wide.2 (HA2.out _)).mono ?_⟩
            rintro e y2 ⟨rfl, u⟩
            replace kq := u.blk kq
            replace kk2 := u.blk kk2
            replace kb2 := u.blk kb2
            replace sm2 := sm2.trans (T.Sm.of u)
            replace sz2 := Nat.le_trans sz2 u.size
            replace J2 := HJ.out _ _ _ J2 u
            clear u
            obtain ⟨fn, tmps, assign, body, hy, hRR⟩ := HY.out _ (ph, pa, pb, lo, hi) y2 J2 ln.out
            clear J2
            gi_wp2_with fail
            refine hRR.mono ?_
            rintro e w5 (⟨rfl, hJ5, hk5⟩ | ⟨rfl, hJx5⟩)
            · rw [← tk0.out] at hJ5
              have hJn := hJ5
              have kn := hk5.blk kk2 hne
              have kn2 := hk5.blk kb2 hne2
              have sn := T.Sm.kc sm2 HP.out hk5
              have zn := Nat.le_trans sz2 hk5.2
              clear hRR hy kk2 kb2 sm2 sz2 hk5 hJ5 kq
              gi_wp2_with (refine ⟨trivial, ?_⟩)
              go_roundw
              case rel => exact ⟨k + 1, by omega, by go_num, hJn, kn, kn2, sn, zn⟩
              case measure => simp [intOf]; omega
            · rw [← tk0.out] at hJx5
              clear hRR hy
              gi_wp2
              refine bodyPost_ret (results_none rfl _ _ _) rfl ?_
              exact ⟨⟨_, rfl⟩, .inr ⟨_, T.fil_pre (k + 1), hJx5⟩⟩
      · have g1 : (ph == hr) = false := beq_eq_false_iff_ne.2 e1
        have g2 : (ph != hr) = true := by simp [bne, g1]
        rw [g1, Bool.false_and] at E
        rw [E.out, if_neg Bool.false_ne_true, List.append_nil] at tk0
        clear HA1 HA2 LNN E e1
        have hJn := J2
        rw [← tk0.out] at hJn
        have kn := kk2
        have kn2 := kb2
        have sn := sm2
        have zn := sz2
        clear J2 kk2 kb2 sm2 sz2
        gi_wp2_with (refine ⟨trivial, ?_⟩)
        go_roundw
        case rel => exact ⟨k + 1, by omega, by go_num, hJn, kn, kn2, sn, zn⟩
        case measure => simp [intOf]; omega
    · obtain rfl : k = ps.length := by omega
      rw [List.take_length] at hJs
      gi_wp2
      go_end0
      exact ⟨⟨_, rfl⟩, .inl ⟨_, rfl, hJs⟩⟩
/-- the iterator's contract -/
theorem comparedAt1_stops  {m : Nat} (hm : 1 ≤ m) {B : Nat} {p : Nat → Prop} {w0 w : World} {ps : List (Int × Int × Int × Int × Int)} (I : Prs w0 (.slice aP nP cP) ps) (hps : ∀ x ∈ ps, 0 ≤ x.2.1 ∧ x.2.1 ≤ 4 ∧ -1 ≤ x.2.2.1 ∧ x.2.2.1 ≤ 4) {hr : Int} (hw0 : T.Sm w0 w) (hp : ∀ b, p b → w0.heap.size ≤ b) (hpq : ∀ b, w.heap.size ≤ b → ¬ p b) (hne : ¬ p B) (kB : mblk w B = some (.cells (CeC H (.slice aR nR cR) (.slice aO nO cO) (.slice aP nP cP) b0 b1 b2 b3 b4) 79 (0, 0))) {B2 : Nat} (hne2 : ¬ p B2) (kB2 : mblk w B2 = some (.cells #[.int .i64 hr] 3 (0, 0))) :
    SeqStopsK Fence.wide m Try.prog 121 #[.pointer (some ⟨B, 0, none⟩), .pointer (some ⟨B2, 0, none⟩)]
      (fun x : (Int × Int × Int × Int × Int) => #[.agg #[.int .i64 x.1, .int .i64 x.2.1, .int .i64 x.2.2.1, .int .i64 x.2.2.2.1, .int .i64 x.2.2.2.2]]) (T.Kc p) (fun xs => xs = ps.filter (T.isAt b0 b1 b2 b3 b4 hr)) (fun pre => pre <+: ps.filter (T.isAt b0 b1 b2 b3 b4 hr)) (ps.filter (T.isAt b0 b1 b2 b3 b4 hr)).length w := by
  intro l J Jx W hW hJ _ hY h0
  have uW : Up w W := hW
  exact comparedAt1_in  hm I hps J Jx W (hw0.trans (T.Sm.of uW)) hp (fun b hb => hpq b (Nat.le_trans uW.size hb)) hne ((Below.block hW B (blk_lt kB)).trans kB) hne2 ((Below.block hW B2 (blk_lt kB2)).trans kB2)
    (fun s X Y hX hU => hJ s X Y none hX ⟨hU.os, hU.tape, hU.output, hU.size, fun j hj _ => Below.block hU j hj⟩ (by simp)) (fun pre x X h1 h2 => hY pre x X h1 (T.pre_lt h2)) h0
end

end Go.Proofs.Ytcmdaiklkdeanaa
