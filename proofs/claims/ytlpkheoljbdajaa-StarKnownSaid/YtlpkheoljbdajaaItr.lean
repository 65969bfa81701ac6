import Derived.Test.YtlpkheoljbdajaaRni
/- The contracts of a book's iterators. -/
namespace Go.Proofs.Ytlpkheoljbdajaa
open Go.RowKit Go.Shelf
attribute [local go_sem] Oper.semAt_some

abbrev T.T4 := (Int × Int) × Int × Int
abbrev T.tv (x : T.T4) : Value := TiV x.1.1 x.1.2 x.2.1 x.2.2
/-- so many things of a row -/
def T.rng {α : Type} (f : Nat → α) (k : Nat) : List α := (List.range k).map f
theorem T.rng_succ {α : Type} {f : Nat → α} {k : Nat} : T.rng f k ++ [f k] = T.rng f (k + 1) := by
  unfold T.rng
  rw [List.range_succ, List.map_append]
  rfl
theorem T.rng_pre {α : Type} {f : Nat → α} {k n : Nat} (h : k ≤ n) : T.rng f k <+: T.rng f n := by
  unfold T.rng
  obtain ⟨t, ht⟩ := range_prefix h
  rw [← ht, List.map_append]
  exact List.prefix_append _ _
theorem T.rng_zero {α : Type} {f : Nat → α} : T.rng f 0 = [] := rfl
theorem T.fil_take {α : Type} {P : α → Bool} {f : Nat → α} {k : Nat} : (T.rng f (k + 1)).filter P = (T.rng f k).filter P ++ (if P (f k) then [f k] else []) := by
  rw [← T.rng_succ, List.filter_append]
  simp only [List.filter_cons, List.filter_nil]
/-- what binds observers, stations, nights -/
def T.err (ps : List (Int × Int)) (k : Nat) : T.T4 := ((9 + (k : Int), 0), -(ps.getD k (0, 0)).2, -(ps.getD k (0, 0)).1)
def T.del (qs : List (Int × Int)) (k : Nat) : T.T4 := ((13 + (k : Int), 0), (qs.getD k (0, 0)).1, (qs.getD k (0, 0)).2)
def T.nig (rl rh : Int) (k : Nat) : T.T4 := ((1 + ((k : Int) + 1), 1 + (k : Int)), rl, rh)
def T.errs (ps : List (Int × Int)) : List T.T4 := T.rng (T.err ps) ps.length
def T.dels (qs : List (Int × Int)) : List T.T4 := T.rng (T.del qs) qs.length
def T.offs (N : Nat) (bl bh rl rh : Int) : List T.T4 := ((1, 0), bl, bh) :: T.rng (T.nig rl rh) (N - 1)

section
variable {N bl bh rl rh : Int} {aP aQ aL : Option Addr} {nP cP nQ cQ nL cL : Nat} {o : Nat → Bool} {ps qs : List (Int × Int)} {ls : List T.T5} {B : Nat} {p : Nat → Prop} {w0 w : World}
theorem errors_any (w : World) : Calls Try.prog 106 #[BkV N bl bh rl rh (.slice aP nP cP) (.slice aQ nQ cQ) (.slice aL nL cL) o] w fun e w' =>
    e = .returned (.func (.func 123) #[] #[.pointer (some ⟨w.heap.size, 0, none⟩)]) ∧ w.alloc (.cells (BkC N bl bh rl rh (.slice aP nP cP) (.slice aQ nQ cQ) (.slice aL nL cL) o) 81) = w' := by
  go_enter Try.func106, Try.ntmps106
  go_wp2
  go_ret
  exact ⟨rfl, rfl⟩
theorem delays_any (w : World) : Calls Try.prog 109 #[BkV N bl bh rl rh (.slice aP nP cP) (.slice aQ nQ cQ) (.slice aL nL cL) o] w fun e w' =>
    e = .returned (.func (.func 125) #[] #[.pointer (some ⟨w.heap.size, 0, none⟩)]) ∧ w.alloc (.cells (BkC N bl bh rl rh (.slice aP nP cP) (.slice aQ nQ cQ) (.slice aL nL cL) o) 81) = w' := by
  go_enter Try.func109, Try.ntmps109
  go_wp2
  go_ret
  exact ⟨rfl, rfl⟩
theorem offsets_any (w : World) : Calls Try.prog 112 #[BkV N bl bh rl rh (.slice aP nP cP) (.slice aQ nQ cQ) (.slice aL nL cL) o] w fun e w' =>
    e = .returned (.func (.func 126) #[] #[.pointer (some ⟨w.heap.size, 0, none⟩)]) ∧ w.alloc (.cells (BkC N bl bh rl rh (.slice aP nP cP) (.slice aQ nQ cQ) (.slice aL nL cL) o) 81) = w' := by
  go_enter Try.func112, Try.ntmps112
  go_wp2
  go_ret
  exact ⟨rfl, rfl⟩
theorem looksOf_any (n : Int) (w : World) : Calls Try.prog 115 #[BkV N bl bh rl rh (.slice aP nP cP) (.slice aQ nQ cQ) (.slice aL nL cL) o, .int .i64 n] w fun e w' =>
    e = .returned (.func (.func 129) #[] #[.pointer (some ⟨w.heap.size, 0, none⟩), .pointer (some ⟨w.heap.size + 1, 0, none⟩)]) ∧ (w.alloc (.cells (BkC N bl bh rl rh (.slice aP nP cP) (.slice aQ nQ cQ) (.slice aL nL cL) o) 81)).alloc (.cells #[.int .i64 n] 3) = w' := by
  go_enter Try.func115, Try.ntmps115
  go_wp2
  go_ret
  exact ⟨rfl, rfl⟩
set_option maxRecDepth 100000 in
set_option maxHeartbeats 2000000 in
theorem errors_seq (I : Sps w0 (.slice aP nP cP) ps) (hb : ∀ s ∈ ps, T.Bs 10000 s) (h4 : ps.length ≤ 4) (hw0 : T.Sm w0 w) (hp : ∀ b, p b → w0.heap.size ≤ b) (hne : ¬ p B) (kB0 : mblk w B = some (.cells (BkC N bl bh rl rh (.slice aP nP cP) (.slice aQ nQ cQ) (.slice aL nL cL) o) 81 (0, 0))) :
    T.Seq 123 #[.pointer (some ⟨B, 0, none⟩)] (fun (x : T.T4) => #[T.tv x]) (T.errs ps) p w := by
  intro l J W u hpq hJ hY h0
  have hw1 := hw0.trans (T.Sm.of u)
  have kB := u.blk kB0
  clear hw0 kB0
  have HY := Lib.hid hY
  have HJ := Lib.hid (fun s X Y (h : J s X) (u : Up X Y) => T.own_up hJ h u)
  have HP := Lib.hid hp
  clear hY hJ hp
  refine callsIn_of_wp Try.func123 rfl trivial ?_ rfl
  simp only [Try.ntmps123, List.size_toArray, List.length_cons, List.length_nil, Nat.reduceAdd, Nat.reduceSub, Array.replicate_succ, Array.replicate_zero, List.push_toArray, List.append_toArray, List.nil_append, List.cons_append]
  have hn := I.len
  subst hn
  have HI := Lib.hid I
  have HB := Lib.hid hb
  clear I hb
  gi_wp2_with fail
  gi_loopw [9] (fun t wr => ∃ k : Nat, k ≤ ps.length ∧ t = .int .i64 k ∧ J (T.rng (T.err ps) k) wr ∧ mblk wr B = some (.cells (BkC N bl bh rl rh (.slice aP ps.length cP) (.slice aQ nQ cQ) (.slice aL nL cL) o) 81 (0, 0)) ∧ T.Sm w0 wr ∧ W.heap.size ≤ wr.heap.size) (fun t _ => ps.length - (intOf t).toNat)
  case atStart => exact ⟨0, Nat.zero_le _, rfl, h0, kB, hw1, Nat.le_refl _⟩
  case round =>
    clear h0 kB hw1 u
    obtain ⟨k, hk, rfl, hJs, kk, hsm, hsz⟩ := hrel
    by_cases hlt : k < ps.length
    · obtain ⟨a1, c1, e1, _, hl, hm1⟩ := (HI.out.sm hsm).is
      injection e1 with e1 e2 e3
      subst e1 e3
      clear e2
      obtain ⟨g, off, rfl, gl, hc⟩ := hm1 (by omega)
      have x0 := hc k hlt 0 (by omega)
      have x1 := hc k hlt 1 (by omega)
      have hbk := HB.out (ps.getD k (0, 0)) (by rw [List.getD_eq_getElem?_getD, List.getElem?_eq_getElem hlt]; exact List.getElem_mem hlt)
      have htr := Lib.hid (show T.err ps k = ((9 + (k : Int), 0), -(ps.getD k (0, 0)).2, -(ps.getD k (0, 0)).1) from rfl)
      have ln := Lib.hid (show T.rng (T.err ps) k ++ [T.err ps k] <+: T.errs ps by rw [T.rng_succ]; exact T.rng_pre hlt)
      generalize ps.getD k (0, 0) = z at *
      obtain ⟨lo, hi⟩ := z
      obtain ⟨⟨hb1, hb2⟩, hb3, hb4⟩ := hbk
      simp only [T.encS, Nat.add_zero] at x0 x1 hb1 hb2 hb3 hb4
      clear hc hm1
      have lk := blk_lt kk
      have HA := Lib.hid (fun w => thingOf_any (k := 0) (by omega) (k : Int) (by omega) (by omega) w)
      have HT := Lib.hid (fun w => turned_any lo hi w (by omega) (by omega) (by omega) (by omega))
      obtain ⟨t1, ht1⟩ : ∃ z, -hi = z := ⟨_, rfl⟩
      obtain ⟨t2, ht2⟩ : ∃ z, -lo = z := ⟨_, rfl⟩
      rw [ht1, ht2] at HT htr
      clear ht1 ht2
      rw [show T.fst 0 = 9 from rfl] at HA
      obtain ⟨tk, htk⟩ : ∃ z, 9 + (k : Int) = z := ⟨_, rfl⟩
      rw [htk] at HA htr
      clear htk hb1 hb2 hb3 hb4
      gi_wp2_with fail
      obtain ⟨q, hqe⟩ : ∃ q, wr.heap.size = q := ⟨_, rfl⟩
      have kq := blk_new wr (.cells #[.int .i64 lo, .int .i64 hi] 23) q hqe.symm
      have kk2 := blk_keep (.cells #[.int .i64 lo, .int .i64 hi] 23) kk
      have sm2 := hsm.trans (T.Sm.of ((Up.refl wr).alloc (.cells #[.int .i64 lo, .int .i64 hi] 23)))
      have J2 := HJ.out _ _ _ hJs ((Up.refl wr).alloc (.cells #[.int .i64 lo, .int .i64 hi] 23))
      have hq := hpq q (by omega)
      rw [hqe]
      obtain ⟨W2, hW2⟩ : ∃ x, wr.alloc (.cells #[.int .i64 lo, .int .i64 hi] 23) = x := ⟨_, rfl⟩
      rw [hW2] at kq kk2 sm2 J2 ⊢
      have sz2 : W.heap.size ≤ W2.heap.size := by rw [← hW2]; simp; omega
      clear hJs kk hsm hW2 hqe hsz
      refine wpIn_nrm ?_
      refine regionG (fun w' => ((T.Sm w0 w' ∧ W.heap.size ≤ w'.heap.size) ∧ J (T.rng (T.err ps) k) w') ∧ mblk w' B = some (.cells (BkC N bl bh rl rh (.slice (some ⟨g, off, none⟩) ps.length cP) (.slice aQ nQ cQ) (.slice aL nL cL) o) 81 (0, 0)) ∧ mblk w' q = some (.cells #[.int .i64 lo, .int .i64 hi] 23 (0, 0))) 7 (by kernel_rfl) ⟨⟨⟨sm2.trans (T.Sm.of (Up.refl W2).drew), by simpa using sz2⟩, HJ.out _ _ _ J2 (Up.refl W2).drew⟩, by rw [blk_drew]; exact kk2, by rw [blk_drew]; exact kq⟩ (fun hHeld hCl => ?_)
      clear J2 kk2 kq sm2 sz2
      refine takeG (i := 0) (d := (some 14)) (v := ?v1) rfl rfl (by kernel_rfl) (by kernel_rfl) (by decide) hCl (by kernel_rfl) (by kernel_rfl) (by kernel_rfl) (fun _ _ _ h => h) (by rfl) ?hy1 (fun _ _ _ => trivial) (by assumption) (fun hCl' => ?_)
      case hy1 => ((intro w hSw; (try dsimp only at hSw); (try go_split_ands); go_simp); try with_reducible rfl)
      simp only [Act.put, List.setIfInBounds_toArray, List.set_cons_zero, List.set_cons_succ]
      replace hCl := hCl'; clear hCl'
      refine takeG (i := 1) (d := (some 15)) (v := ?v2) rfl rfl (by kernel_rfl) (by kernel_rfl) (by decide) hCl (by kernel_rfl) (by kernel_rfl) (by kernel_rfl) (fun _ _ _ h => h) (by rfl) ?hy2 (fun _ _ _ => trivial) (by assumption) (fun hCl' => ?_)
      case hy2 => ((intro w hSw; (try dsimp only at hSw); (try go_split_ands); go_simp); try with_reducible rfl)
      simp only [Act.put, List.setIfInBounds_toArray, List.set_cons_zero, List.set_cons_succ]
      replace hCl := hCl'; clear hCl'
      refine takeG (i := 4) (d := (some 18)) (v := ?v3) rfl rfl (by kernel_rfl) (by kernel_rfl) (by decide) hCl (by kernel_rfl) (by kernel_rfl) (by kernel_rfl) (fun _ _ _ h => h) (by rfl) ?hy3 (fun _ _ _ => trivial) (by assumption) (fun hCl' => ?_)
      case hy3 => ((intro w hSw; (try dsimp only at hSw); (try go_split_ands); go_simp); try with_reducible rfl)
      simp only [Act.put, List.setIfInBounds_toArray, List.set_cons_zero, List.set_cons_succ]
      replace hCl := hCl'; clear hCl'
      refine nextG (i := 2) (by kernel_rfl) rfl (by rfl) hCl (fun K hK => ?_)
      go_simp
      refine ⟨trivial, (callsIn_wide.2 (HA.out _)).mono ?_⟩
      rintro e y2 ⟨rfl, u⟩
      refine hK.out _ _ ⟨⟨⟨hHeld.1.1.1.trans (T.Sm.of u), Nat.le_trans hHeld.1.1.2 u.size⟩, HJ.out _ _ _ hHeld.1.2 u⟩, u.blk hHeld.2.1, u.blk hHeld.2.2⟩ (fun hHeld hCl => ?_)
      clear hK K u
      try simp only [Act.put, List.setIfInBounds_toArray, List.set_cons_zero, List.set_cons_succ]
      refine takeG (i := 3) (d := (some 17)) (v := ?v5) rfl rfl (by kernel_rfl) (by kernel_rfl) (by decide) hCl (by kernel_rfl) (by kernel_rfl) (by kernel_rfl) (fun _ _ _ h => h) (by rfl) ?hy5 (fun _ _ _ => trivial) (by assumption) (fun hCl' => ?_)
      case hy5 => ((intro w hSw; (try dsimp only at hSw); (try go_split_ands); go_simp); try with_reducible rfl)
      simp only [Act.put, List.setIfInBounds_toArray, List.set_cons_zero, List.set_cons_succ]
      replace hCl := hCl'; clear hCl'
      refine nextG (i := 5) (by kernel_rfl) rfl (by rfl) hCl (fun K hK => ?_)
      go_simp
      refine ⟨trivial, (callsIn_wide.2 (HT.out _)).mono ?_⟩
      rintro e y5 ⟨rfl, u⟩
      refine hK.out _ _ ⟨⟨⟨hHeld.1.1.1.trans (T.Sm.of u), Nat.le_trans hHeld.1.1.2 u.size⟩, HJ.out _ _ _ hHeld.1.2 u⟩, u.blk hHeld.2.1, u.blk hHeld.2.2⟩ (fun hHeld hCl => ?_)
      clear hK K u
      try simp only [Act.put, List.setIfInBounds_toArray, List.set_cons_zero, List.set_cons_succ]
      obtain ⟨fn, tmps, assign, body, hy, hRR⟩ := HY.out _ (T.err ps k) y5 hHeld.1.2 ln.out
      rw [htr.out] at hy
      refine takeG (i := 6) (d := (some 20)) (v := ?v7) rfl rfl (by kernel_rfl) (by kernel_rfl) (by decide) hCl (by kernel_rfl) (by kernel_rfl) (by kernel_rfl) (fun _ _ _ h => h) (by rfl) ?hy7 (fun _ _ _ => trivial) (by assumption) (fun hCl' => ?_)
      case hy7 => ((intro w hSw; (try dsimp only at hSw); (try go_split_ands); go_simp); try with_reducible rfl)
      simp only [Act.put, List.setIfInBounds_toArray, List.set_cons_zero, List.set_cons_succ]
      replace hCl := hCl'; clear hCl'
      have s4 := hHeld.1.1.1
      have z4 := hHeld.1.1.2
      have k4 := hHeld.2.1
      clear hHeld hCl
      refine lastG (i := 7) (by kernel_rfl) rfl (by rfl) (by decide) (fun K hK => ?_)
      go_simp
      refine hRR.mono ?_
      rintro e w5 ⟨rfl, hJ5, hk5⟩
      have s5 := T.Sm.kc s4 HP.out hk5.kc
      have z5 := Nat.le_trans z4 hk5.2
      have k5 := hk5.kc.blk k4 hne
      rw [T.rng_succ] at hJ5
      clear hRR hy k4 s4 z4 hk5
      refine hK.out _ _ ?_
      clear hK K
      refine lastG (i := 8) (by kernel_rfl) rfl (by rfl) (by decide) (fun K hK => ?_)
      go_simp
      refine hK.out _ _ ?_
      clear hK K
      refine doneG (by kernel_rfl) ?_ _
      refine S.nrm_intro ?_
      gi_wp2
      go_roundw
      case rel => exact ⟨k + 1, by omega, by go_num, hJ5, k5, s5, z5⟩
      case measure => simp [intOf]; omega
    · obtain rfl : k = ps.length := by omega
      gi_wp2
      go_end0
      exact ⟨⟨_, rfl⟩, hJs⟩
set_option maxRecDepth 100000 in
set_option maxHeartbeats 2000000 in
theorem delays_seq (I : Sps w0 (.slice aQ nQ cQ) qs) (hb : ∀ s ∈ qs, T.Bs 10000 s) (h4 : qs.length ≤ 4) (hw0 : T.Sm w0 w) (hp : ∀ b, p b → w0.heap.size ≤ b) (hne : ¬ p B) (kB0 : mblk w B = some (.cells (BkC N bl bh rl rh (.slice aP nP cP) (.slice aQ nQ cQ) (.slice aL nL cL) o) 81 (0, 0))) :
    T.Seq 125 #[.pointer (some ⟨B, 0, none⟩)] (fun (x : T.T4) => #[T.tv x]) (T.dels qs) p w := by
  intro l J W u hpq hJ hY h0
  have hw1 := hw0.trans (T.Sm.of u)
  have kB := u.blk kB0
  clear hw0 kB0
  have HY := Lib.hid hY
  have HJ := Lib.hid (fun s X Y (h : J s X) (u : Up X Y) => T.own_up hJ h u)
  have HP := Lib.hid hp
  clear hY hJ hp
  refine callsIn_of_wp Try.func125 rfl trivial ?_ rfl
  simp only [Try.ntmps125, List.size_toArray, List.length_cons, List.length_nil, Nat.reduceAdd, Nat.reduceSub, Array.replicate_succ, Array.replicate_zero, List.push_toArray, List.append_toArray, List.nil_append, List.cons_append]
  have hn := I.len
  subst hn
  have HI := Lib.hid I
  have HB := Lib.hid hb
  clear I hb
  gi_wp2_with fail
  gi_loopw [9] (fun t wr => ∃ k : Nat, k ≤ qs.length ∧ t = .int .i64 k ∧ J (T.rng (T.del qs) k) wr ∧ mblk wr B = some (.cells (BkC N bl bh rl rh (.slice aP nP cP) (.slice aQ qs.length cQ) (.slice aL nL cL) o) 81 (0, 0)) ∧ T.Sm w0 wr ∧ W.heap.size ≤ wr.heap.size) (fun t _ => qs.length - (intOf t).toNat)
  case atStart => exact ⟨0, Nat.zero_le _, rfl, h0, kB, hw1, Nat.le_refl _⟩
  case round =>
    clear h0 kB hw1 u
    obtain ⟨k, hk, rfl, hJs, kk, hsm, hsz⟩ := hrel
    by_cases hlt : k < qs.length
    · obtain ⟨a1, c1, e1, _, hl, hm1⟩ := (HI.out.sm hsm).is
      injection e1 with e1 e2 e3
      subst e1 e3
      clear e2
      obtain ⟨g, off, rfl, gl, hc⟩ := hm1 (by omega)
      have x0 := hc k hlt 0 (by omega)
      have x1 := hc k hlt 1 (by omega)
      have hbk := HB.out (qs.getD k (0, 0)) (by rw [List.getD_eq_getElem?_getD, List.getElem?_eq_getElem hlt]; exact List.getElem_mem hlt)
      have htr := Lib.hid (show T.del qs k = ((13 + (k : Int), 0), (qs.getD k (0, 0)).1, (qs.getD k (0, 0)).2) from rfl)
      have ln := Lib.hid (show T.rng (T.del qs) k ++ [T.del qs k] <+: T.dels qs by rw [T.rng_succ]; exact T.rng_pre hlt)
      generalize qs.getD k (0, 0) = z at *
      obtain ⟨lo, hi⟩ := z
      obtain ⟨⟨hb1, hb2⟩, hb3, hb4⟩ := hbk
      simp only [T.encS, Nat.add_zero] at x0 x1 hb1 hb2 hb3 hb4
      clear hc hm1
      have lk := blk_lt kk
      have HA := Lib.hid (fun w => thingOf_any (k := 1) (by omega) (k : Int) (by omega) (by omega) w)
      rw [show T.fst 1 = 13 from rfl] at HA
      obtain ⟨tk, htk⟩ : ∃ z, 13 + (k : Int) = z := ⟨_, rfl⟩
      rw [htk] at HA htr
      clear htk hb1 hb2 hb3 hb4
      gi_wp2_with fail
      obtain ⟨q, hqe⟩ : ∃ q, wr.heap.size = q := ⟨_, rfl⟩
      have kq := blk_new wr (.cells #[.int .i64 lo, .int .i64 hi] 23) q hqe.symm
      have kk2 := blk_keep (.cells #[.int .i64 lo, .int .i64 hi] 23) kk
      have sm2 := hsm.trans (T.Sm.of ((Up.refl wr).alloc (.cells #[.int .i64 lo, .int .i64 hi] 23)))
      have J2 := HJ.out _ _ _ hJs ((Up.refl wr).alloc (.cells #[.int .i64 lo, .int .i64 hi] 23))
      have hq := hpq q (by omega)
      rw [hqe]
      obtain ⟨W2, hW2⟩ : ∃ x, wr.alloc (.cells #[.int .i64 lo, .int .i64 hi] 23) = x := ⟨_, rfl⟩
      rw [hW2] at kq kk2 sm2 J2 ⊢
      have sz2 : W.heap.size ≤ W2.heap.size := by rw [← hW2]; simp; omega
      clear hJs kk hsm hW2 hqe hsz
      refine wpIn_nrm ?_
      refine regionG (fun w' => ((T.Sm w0 w' ∧ W.heap.size ≤ w'.heap.size) ∧ J (T.rng (T.del qs) k) w') ∧ mblk w' B = some (.cells (BkC N bl bh rl rh (.slice aP nP cP) (.slice (some ⟨g, off, none⟩) qs.length cQ) (.slice aL nL cL) o) 81 (0, 0)) ∧ mblk w' q = some (.cells #[.int .i64 lo, .int .i64 hi] 23 (0, 0))) 6 (by kernel_rfl) ⟨⟨⟨sm2.trans (T.Sm.of (Up.refl W2).drew), by simpa using sz2⟩, HJ.out _ _ _ J2 (Up.refl W2).drew⟩, by rw [blk_drew]; exact kk2, by rw [blk_drew]; exact kq⟩ (fun hHeld hCl => ?_)
      clear J2 kk2 kq sm2 sz2
      refine takeG (i := 0) (d := (some 14)) (v := ?v10) rfl rfl (by kernel_rfl) (by kernel_rfl) (by decide) hCl (by kernel_rfl) (by kernel_rfl) (by kernel_rfl) (fun _ _ _ h => h) (by rfl) ?hy10 (fun _ _ _ => trivial) (by assumption) (fun hCl' => ?_)
      case hy10 => ((intro w hSw; (try dsimp only at hSw); (try go_split_ands); go_simp); try with_reducible rfl)
      simp only [Act.put, List.setIfInBounds_toArray, List.set_cons_zero, List.set_cons_succ]
      replace hCl := hCl'; clear hCl'
      refine takeG (i := 1) (d := (some 15)) (v := ?v11) rfl rfl (by kernel_rfl) (by kernel_rfl) (by decide) hCl (by kernel_rfl) (by kernel_rfl) (by kernel_rfl) (fun _ _ _ h => h) (by rfl) ?hy11 (fun _ _ _ => trivial) (by assumption) (fun hCl' => ?_)
      case hy11 => ((intro w hSw; (try dsimp only at hSw); (try go_split_ands); go_simp); try with_reducible rfl)
      simp only [Act.put, List.setIfInBounds_toArray, List.set_cons_zero, List.set_cons_succ]
      replace hCl := hCl'; clear hCl'
      refine takeG (i := 4) (d := (some 18)) (v := ?v12) rfl rfl (by kernel_rfl) (by kernel_rfl) (by decide) hCl (by kernel_rfl) (by kernel_rfl) (by kernel_rfl) (fun _ _ _ h => h) (by rfl) ?hy12 (fun _ _ _ => trivial) (by assumption) (fun hCl' => ?_)
      case hy12 => ((intro w hSw; (try dsimp only at hSw); (try go_split_ands); go_simp); try with_reducible rfl)
      simp only [Act.put, List.setIfInBounds_toArray, List.set_cons_zero, List.set_cons_succ]
      replace hCl := hCl'; clear hCl'
      refine nextG (i := 2) (by kernel_rfl) rfl (by rfl) hCl (fun K hK => ?_)
      go_simp
      refine ⟨trivial, (callsIn_wide.2 (HA.out _)).mono ?_⟩
      rintro e y2 ⟨rfl, u⟩
      refine hK.out _ _ ⟨⟨⟨hHeld.1.1.1.trans (T.Sm.of u), Nat.le_trans hHeld.1.1.2 u.size⟩, HJ.out _ _ _ hHeld.1.2 u⟩, u.blk hHeld.2.1, u.blk hHeld.2.2⟩ (fun hHeld hCl => ?_)
      clear hK K u
      try simp only [Act.put, List.setIfInBounds_toArray, List.set_cons_zero, List.set_cons_succ]
      refine takeG (i := 3) (d := (some 17)) (v := ?v14) rfl rfl (by kernel_rfl) (by kernel_rfl) (by decide) hCl (by kernel_rfl) (by kernel_rfl) (by kernel_rfl) (fun _ _ _ h => h) (by rfl) ?hy14 (fun _ _ _ => trivial) (by assumption) (fun hCl' => ?_)
      case hy14 => ((intro w hSw; (try dsimp only at hSw); (try go_split_ands); go_simp); try with_reducible rfl)
      simp only [Act.put, List.setIfInBounds_toArray, List.set_cons_zero, List.set_cons_succ]
      replace hCl := hCl'; clear hCl'
      obtain ⟨fn, tmps, assign, body, hy, hRR⟩ := HY.out _ (T.del qs k) y2 hHeld.1.2 ln.out
      rw [htr.out] at hy
      refine takeG (i := 5) (d := (some 19)) (v := ?v15) rfl rfl (by kernel_rfl) (by kernel_rfl) (by decide) hCl (by kernel_rfl) (by kernel_rfl) (by kernel_rfl) (fun _ _ _ h => h) (by rfl) ?hy15 (fun _ _ _ => trivial) (by assumption) (fun hCl' => ?_)
      case hy15 => ((intro w hSw; (try dsimp only at hSw); (try go_split_ands); go_simp); try with_reducible rfl)
      simp only [Act.put, List.setIfInBounds_toArray, List.set_cons_zero, List.set_cons_succ]
      replace hCl := hCl'; clear hCl'
      have s4 := hHeld.1.1.1
      have z4 := hHeld.1.1.2
      have k4 := hHeld.2.1
      clear hHeld hCl
      refine lastG (i := 6) (by kernel_rfl) rfl (by rfl) (by decide) (fun K hK => ?_)
      go_simp
      refine hRR.mono ?_
      rintro e w5 ⟨rfl, hJ5, hk5⟩
      have s5 := T.Sm.kc s4 HP.out hk5.kc
      have z5 := Nat.le_trans z4 hk5.2
      have k5 := hk5.kc.blk k4 hne
      rw [T.rng_succ] at hJ5
      clear hRR hy k4 s4 z4 hk5
      refine hK.out _ _ ?_
      clear hK K
      refine lastG (i := 7) (by kernel_rfl) rfl (by rfl) (by decide) (fun K hK => ?_)
      go_simp
      refine hK.out _ _ ?_
      clear hK K
      refine doneG (by kernel_rfl) ?_ _
      refine S.nrm_intro ?_
      gi_wp2
      go_roundw
      case rel => exact ⟨k + 1, by omega, by go_num, hJ5, k5, s5, z5⟩
      case measure => simp [intOf]; omega
    · obtain rfl : k = qs.length := by omega
      gi_wp2
      go_end0
      exact ⟨⟨_, rfl⟩, hJs⟩
set_option maxRecDepth 100000 in
set_option maxHeartbeats 2000000 in
theorem offsets_seq {M : Nat} (hM : N = (M : Int)) (hM1 : 1 ≤ M) (hM8 : M ≤ 8) (hw0 : T.Sm w0 w) (hp : ∀ b, p b → w0.heap.size ≤ b) (hne : ¬ p B) (kB0 : mblk w B = some (.cells (BkC N bl bh rl rh (.slice aP nP cP) (.slice aQ nQ cQ) (.slice aL nL cL) o) 81 (0, 0))) :
    T.Seq 126 #[.pointer (some ⟨B, 0, none⟩)] (fun (x : T.T4) => #[T.tv x]) (T.offs M bl bh rl rh) p w := by
  intro l J W u hpq hJ hY h0
  have hw1 := hw0.trans (T.Sm.of u)
  have kB := u.blk kB0
  clear hw0 kB0
  have HY := Lib.hid hY
  have HJ := Lib.hid (fun s X Y (h : J s X) (u : Up X Y) => T.own_up hJ h u)
  have HP := Lib.hid hp
  clear hY hJ hp
  have e1 := Lib.hid (show T.offs M bl bh rl rh = ((1, 0), bl, bh) :: T.rng (T.nig rl rh) (M - 1) from rfl)
  have wN : IntKind.i64.wrap (N - 1) = N - 1 := IntWalk.i64_in _ (by omega)
  have HA0 := Lib.hid (fun w => thingOf_any (k := 2) (by omega) 0 (by omega) (by omega) w)
  rw [show T.fst 2 + 0 = 1 from rfl] at HA0
  refine callsIn_of_wp Try.func126 rfl trivial ?_ rfl
  simp only [Try.ntmps126, List.size_toArray, List.length_cons, List.length_nil, Nat.reduceAdd, Nat.reduceSub, Array.replicate_succ, Array.replicate_zero, List.push_toArray, List.append_toArray, List.nil_append, List.cons_append]
  gi_wp2_with fail
  refine wpIn_nrm ?_
  refine regionG (fun w' => ((T.Sm w0 w' ∧ W.heap.size ≤ w'.heap.size) ∧ J [] w') ∧ mblk w' B = some (.cells (BkC N bl bh rl rh (.slice aP nP cP) (.slice aQ nQ cQ) (.slice aL nL cL) o) 81 (0, 0))) 7 (by kernel_rfl) ⟨⟨⟨hw1.trans (T.Sm.of (Up.refl W).drew), by simp⟩, HJ.out _ _ _ h0 (Up.refl W).drew⟩, by rw [blk_drew]; exact kB⟩ (fun hHeld hCl => ?_)
  clear h0 kB hw1
  refine takeG (i := 0) (d := (some 4)) (v := ?v18) rfl rfl (by kernel_rfl) (by kernel_rfl) (by decide) hCl (by kernel_rfl) (by kernel_rfl) (by kernel_rfl) (fun _ _ _ h => h) (by rfl) ?hy18 (fun _ _ _ => trivial) (by assumption) (fun hCl' => ?_)
  case hy18 => ((intro w hSw; (try dsimp only at hSw); (try go_split_ands); go_simp); try with_reducible rfl)
  simp only [Act.put, List.setIfInBounds_toArray, List.set_cons_zero, List.set_cons_succ]
  replace hCl := hCl'; clear hCl'
  refine takeG (i := 3) (d := (some 7)) (v := ?v19) rfl rfl (by kernel_rfl) (by kernel_rfl) (by decide) hCl (by kernel_rfl) (by kernel_rfl) (by kernel_rfl) (fun _ _ _ h => h) (by rfl) ?hy19 (fun _ _ _ => trivial) (by assumption) (fun hCl' => ?_)
  case hy19 => ((intro w hSw; (try dsimp only at hSw); (try go_split_ands); go_simp); try with_reducible rfl)
  simp only [Act.put, List.setIfInBounds_toArray, List.set_cons_zero, List.set_cons_succ]
  replace hCl := hCl'; clear hCl'
  refine takeG (i := 4) (d := (some 8)) (v := ?v20) rfl rfl (by kernel_rfl) (by kernel_rfl) (by decide) hCl (by kernel_rfl) (by kernel_rfl) (by kernel_rfl) (fun _ _ _ h => h) (by rfl) ?hy20 (fun _ _ _ => trivial) (by assumption) (fun hCl' => ?_)
  case hy20 => ((intro w hSw; (try dsimp only at hSw); (try go_split_ands); go_simp); try with_reducible rfl)
  simp only [Act.put, List.setIfInBounds_toArray, List.set_cons_zero, List.set_cons_succ]
  replace hCl := hCl'; clear hCl'
  refine takeG (i := 5) (d := (some 9)) (v := ?v21) rfl rfl (by kernel_rfl) (by kernel_rfl) (by decide) hCl (by kernel_rfl) (by kernel_rfl) (by kernel_rfl) (fun _ _ _ h => h) (by rfl) ?hy21 (fun _ _ _ => trivial) (by assumption) (fun hCl' => ?_)
  case hy21 => ((intro w hSw; (try dsimp only at hSw); (try go_split_ands); go_simp); try with_reducible rfl)
  simp only [Act.put, List.setIfInBounds_toArray, List.set_cons_zero, List.set_cons_succ]
  replace hCl := hCl'; clear hCl'
  refine nextG (i := 1) (by kernel_rfl) rfl (by rfl) hCl (fun K hK => ?_)
  go_simp
  refine ⟨trivial, (callsIn_wide.2 (HA0.out _)).mono ?_⟩
  rintro e y1 ⟨rfl, u⟩
  refine hK.out _ _ ⟨⟨⟨hHeld.1.1.1.trans (T.Sm.of u), Nat.le_trans hHeld.1.1.2 u.size⟩, HJ.out _ _ _ hHeld.1.2 u⟩, u.blk hHeld.2⟩ (fun hHeld hCl => ?_)
  clear hK K u
  try simp only [Act.put, List.setIfInBounds_toArray, List.set_cons_zero, List.set_cons_succ]
  refine takeG (i := 2) (d := (some 6)) (v := ?v23) rfl rfl (by kernel_rfl) (by kernel_rfl) (by decide) hCl (by kernel_rfl) (by kernel_rfl) (by kernel_rfl) (fun _ _ _ h => h) (by rfl) ?hy23 (fun _ _ _ => trivial) (by assumption) (fun hCl' => ?_)
  case hy23 => ((intro w hSw; (try dsimp only at hSw); (try go_split_ands); go_simp); try with_reducible rfl)
  simp only [Act.put, List.setIfInBounds_toArray, List.set_cons_zero, List.set_cons_succ]
  replace hCl := hCl'; clear hCl'
  obtain ⟨fn, tmps, assign, body, hy, hRR⟩ := HY.out [] ((1, 0), bl, bh) y1 hHeld.1.2 (by rw [e1.out]; exact ⟨_, rfl⟩)
  refine takeG (i := 6) (d := (some 10)) (v := ?v24) rfl rfl (by kernel_rfl) (by kernel_rfl) (by decide) hCl (by kernel_rfl) (by kernel_rfl) (by kernel_rfl) (fun _ _ _ h => h) (by rfl) ?hy24 (fun _ _ _ => trivial) (by assumption) (fun hCl' => ?_)
  case hy24 => ((intro w hSw; (try dsimp only at hSw); (try go_split_ands); go_simp); try with_reducible rfl)
  simp only [Act.put, List.setIfInBounds_toArray, List.set_cons_zero, List.set_cons_succ]
  replace hCl := hCl'; clear hCl'
  have s4 := hHeld.1.1.1
  have z4 := hHeld.1.1.2
  have k4 := hHeld.2
  clear hHeld hCl
  refine lastG (i := 7) (by kernel_rfl) rfl (by rfl) (by decide) (fun K hK => ?_)
  go_simp
  refine hRR.mono ?_
  rintro e w5 ⟨rfl, hJ5, hk5⟩
  have s5 := T.Sm.kc s4 HP.out hk5.kc
  have z5 := Nat.le_trans z4 hk5.2
  have k5 := hk5.kc.blk k4 hne
  have hJ6 : J (((1, 0), bl, bh) :: T.rng (T.nig rl rh) 0) w5 := hJ5
  clear hRR hy k4 s4 z4 hk5 hJ5
  refine hK.out _ _ ?_
  clear hK K
  refine lastG (i := 8) (by kernel_rfl) rfl (by rfl) (by decide) (fun K hK => ?_)
  go_simp
  refine hK.out _ _ ?_
  clear hK K
  refine doneG (by kernel_rfl) ?_ _
  refine S.nrm_intro ?_
  have lk5 := blk_lt k5
  gi_wp2_with fail
  clear lk5
  gi_loopw [17] (fun t wr => ∃ k : Nat, k ≤ M - 1 ∧ t = .int .i64 k ∧ J (((1, 0), bl, bh) :: T.rng (T.nig rl rh) k) wr ∧ mblk wr B = some (.cells (BkC N bl bh rl rh (.slice aP nP cP) (.slice aQ nQ cQ) (.slice aL nL cL) o) 81 (0, 0)) ∧ T.Sm w0 wr ∧ W.heap.size ≤ wr.heap.size) (fun t _ => M - 1 - (intOf t).toNat)
  case atStart => exact ⟨0, Nat.zero_le _, rfl, hJ6, k5, s5, z5⟩
  case round =>
    clear hJ6 k5 s5 z5 u
    obtain ⟨k, hk, rfl, hJs, kk, hsm, hsz⟩ := hrel
    by_cases hlt : k < M - 1
    · have hlt' : (k : Int) < N - 1 := by omega
      have htr := Lib.hid (show T.nig rl rh k = ((1 + ((k : Int) + 1), 1 + (k : Int)), rl, rh) from rfl)
      have ln := Lib.hid (show (((1, 0), bl, bh) :: T.rng (T.nig rl rh) k) ++ [T.nig rl rh k] <+: T.offs M bl bh rl rh by
        rw [e1.out, List.cons_append, T.rng_succ]
        obtain ⟨t, ht⟩ := T.rng_pre (f := T.nig rl rh) (k := k + 1) (n := M - 1) hlt
        exact ⟨t, by rw [← ht]; rfl⟩)
      have HA1 := Lib.hid (fun w => thingOf_any (k := 2) (by omega) ((k : Int) + 1) (by omega) (by omega) w)
      have HA2 := Lib.hid (fun w => thingOf_any (k := 2) (by omega) (k : Int) (by omega) (by omega) w)
      rw [show T.fst 2 = 1 from rfl] at HA1 HA2
      have wk : IntKind.i64.wrap ((k : Int) + 1) = (k : Int) + 1 := IntWalk.i64_in _ (by omega)
      obtain ⟨t1, ht1⟩ : ∃ z, 1 + ((k : Int) + 1) = z := ⟨_, rfl⟩
      obtain ⟨t2, ht2⟩ : ∃ z, 1 + (k : Int) = z := ⟨_, rfl⟩
      rw [ht1] at HA1
      rw [ht2] at HA2
      rw [ht1, ht2] at htr
      clear ht1 ht2
      gi_wp2_with fail
      refine wpIn_nrm ?_
      refine regionG (fun w' => ((T.Sm w0 w' ∧ W.heap.size ≤ w'.heap.size) ∧ J (((1, 0), bl, bh) :: T.rng (T.nig rl rh) k) w') ∧ mblk w' B = some (.cells (BkC N bl bh rl rh (.slice aP nP cP) (.slice aQ nQ cQ) (.slice aL nL cL) o) 81 (0, 0))) 11 (by kernel_rfl) ⟨⟨⟨hsm.trans (T.Sm.of (Up.refl wr).drew), by simpa using hsz⟩, HJ.out _ _ _ hJs (Up.refl wr).drew⟩, by rw [blk_drew]; exact kk⟩ (fun hHeld hCl => ?_)
      clear hJs kk hsm hsz
      refine takeG (i := 0) (d := (some 20)) (v := ?v27) rfl rfl (by kernel_rfl) (by kernel_rfl) (by decide) hCl (by kernel_rfl) (by kernel_rfl) (by kernel_rfl) (fun _ _ _ h => h) (by rfl) ?hy27 (fun _ _ _ => trivial) (by assumption) (fun hCl' => ?_)
      case hy27 => ((intro w hSw; (try dsimp only at hSw); (try go_split_ands); go_simp); try with_reducible rfl)
      simp only [Act.put, List.setIfInBounds_toArray, List.set_cons_zero, List.set_cons_succ]
      replace hCl := hCl'; clear hCl'
      refine takeG (i := 1) (d := (some 21)) (v := ?v28) rfl rfl (by kernel_rfl) (by kernel_rfl) (by decide) hCl (by kernel_rfl) (by kernel_rfl) (by kernel_rfl) (fun _ _ _ h => h) (by rfl) ?hy28 (fun _ _ _ => trivial) (by assumption) (fun hCl' => ?_)
      case hy28 => ((intro w hSw; (try dsimp only at hSw); (try go_split_ands); go_simp); try with_reducible rfl)
      simp only [Act.put, List.setIfInBounds_toArray, List.set_cons_zero, List.set_cons_succ]
      replace hCl := hCl'; clear hCl'
      refine takeG (i := 4) (d := (some 24)) (v := ?v29) rfl rfl (by kernel_rfl) (by kernel_rfl) (by decide) hCl (by kernel_rfl) (by kernel_rfl) (by kernel_rfl) (fun _ _ _ h => h) (by rfl) ?hy29 (fun _ _ _ => trivial) (by assumption) (fun hCl' => ?_)
      case hy29 => ((intro w hSw; (try dsimp only at hSw); (try go_split_ands); go_simp); try with_reducible rfl)
      simp only [Act.put, List.setIfInBounds_toArray, List.set_cons_zero, List.set_cons_succ]
      replace hCl := hCl'; clear hCl'
      refine takeG (i := 7) (d := (some 27)) (v := ?v30) rfl rfl (by kernel_rfl) (by kernel_rfl) (by decide) hCl (by kernel_rfl) (by kernel_rfl) (by kernel_rfl) (fun _ _ _ h => h) (by rfl) ?hy30 (fun _ _ _ => trivial) (by assumption) (fun hCl' => ?_)
      case hy30 => ((intro w hSw; (try dsimp only at hSw); (try go_split_ands); go_simp); try with_reducible rfl)
      simp only [Act.put, List.setIfInBounds_toArray, List.set_cons_zero, List.set_cons_succ]
      replace hCl := hCl'; clear hCl'
      refine takeG (i := 8) (d := (some 28)) (v := ?v31) rfl rfl (by kernel_rfl) (by kernel_rfl) (by decide) hCl (by kernel_rfl) (by kernel_rfl) (by kernel_rfl) (fun _ _ _ h => h) (by rfl) ?hy31 (fun _ _ _ => trivial) (by assumption) (fun hCl' => ?_)
      case hy31 => ((intro w hSw; (try dsimp only at hSw); (try go_split_ands); go_simp); try with_reducible rfl)
      simp only [Act.put, List.setIfInBounds_toArray, List.set_cons_zero, List.set_cons_succ]
      replace hCl := hCl'; clear hCl'
      refine takeG (i := 9) (d := (some 29)) (v := ?v32) rfl rfl (by kernel_rfl) (by kernel_rfl) (by decide) hCl (by kernel_rfl) (by kernel_rfl) (by kernel_rfl) (fun _ _ _ h => h) (by rfl) ?hy32 (fun _ _ _ => trivial) (by assumption) (fun hCl' => ?_)
      case hy32 => ((intro w hSw; (try dsimp only at hSw); (try go_split_ands); go_simp); try with_reducible rfl)
      simp only [Act.put, List.setIfInBounds_toArray, List.set_cons_zero, List.set_cons_succ]
      replace hCl := hCl'; clear hCl'
      refine takeG (i := 2) (d := (some 22)) (v := ?v33) rfl rfl (by kernel_rfl) (by kernel_rfl) (by decide) hCl (by kernel_rfl) (by kernel_rfl) (by kernel_rfl) (fun _ _ _ h => h) (by rfl) ?hy33 (fun _ _ _ => trivial) (by assumption) (fun hCl' => ?_)
      case hy33 => ((intro w hSw; (try dsimp only at hSw); (try go_split_ands); go_simp); try with_reducible rfl)
      simp only [Act.put, List.setIfInBounds_toArray, List.set_cons_zero, List.set_cons_succ]
      replace hCl := hCl'; clear hCl'
      refine nextG (i := 3) (by kernel_rfl) rfl (by rfl) hCl (fun K hK => ?_)
      go_simp
      refine ⟨trivial, (callsIn_wide.2 (HA1.out _)).mono ?_⟩
      rintro e y3 ⟨rfl, u⟩
      refine hK.out _ _ ⟨⟨⟨hHeld.1.1.1.trans (T.Sm.of u), Nat.le_trans hHeld.1.1.2 u.size⟩, HJ.out _ _ _ hHeld.1.2 u⟩, u.blk hHeld.2⟩ (fun hHeld hCl => ?_)
      clear hK K u
      try simp only [Act.put, List.setIfInBounds_toArray, List.set_cons_zero, List.set_cons_succ]
      refine nextG (i := 5) (by kernel_rfl) rfl (by rfl) hCl (fun K hK => ?_)
      go_simp
      refine ⟨trivial, (callsIn_wide.2 (HA2.out _)).mono ?_⟩
      rintro e y5 ⟨rfl, u⟩
      refine hK.out _ _ ⟨⟨⟨hHeld.1.1.1.trans (T.Sm.of u), Nat.le_trans hHeld.1.1.2 u.size⟩, HJ.out _ _ _ hHeld.1.2 u⟩, u.blk hHeld.2⟩ (fun hHeld hCl => ?_)
      clear hK K u
      try simp only [Act.put, List.setIfInBounds_toArray, List.set_cons_zero, List.set_cons_succ]
      refine takeG (i := 6) (d := (some 26)) (v := ?v36) rfl rfl (by kernel_rfl) (by kernel_rfl) (by decide) hCl (by kernel_rfl) (by kernel_rfl) (by kernel_rfl) (fun _ _ _ h => h) (by rfl) ?hy36 (fun _ _ _ => trivial) (by assumption) (fun hCl' => ?_)
      case hy36 => ((intro w hSw; (try dsimp only at hSw); (try go_split_ands); go_simp); try with_reducible rfl)
      simp only [Act.put, List.setIfInBounds_toArray, List.set_cons_zero, List.set_cons_succ]
      replace hCl := hCl'; clear hCl'
      obtain ⟨fn, tmps, assign, body, hy, hRR⟩ := HY.out _ (T.nig rl rh k) y5 hHeld.1.2 ln.out
      rw [htr.out] at hy
      refine takeG (i := 10) (d := (some 30)) (v := ?v37) rfl rfl (by kernel_rfl) (by kernel_rfl) (by decide) hCl (by kernel_rfl) (by kernel_rfl) (by kernel_rfl) (fun _ _ _ h => h) (by rfl) ?hy37 (fun _ _ _ => trivial) (by assumption) (fun hCl' => ?_)
      case hy37 => ((intro w hSw; (try dsimp only at hSw); (try go_split_ands); go_simp); try with_reducible rfl)
      simp only [Act.put, List.setIfInBounds_toArray, List.set_cons_zero, List.set_cons_succ]
      replace hCl := hCl'; clear hCl'
      have s4 := hHeld.1.1.1
      have z4 := hHeld.1.1.2
      have k4 := hHeld.2
      clear hHeld hCl
      refine lastG (i := 11) (by kernel_rfl) rfl (by rfl) (by decide) (fun K hK => ?_)
      go_simp
      refine hRR.mono ?_
      rintro e w5 ⟨rfl, hJ5, hk5⟩
      have s5 := T.Sm.kc s4 HP.out hk5.kc
      have z5 := Nat.le_trans z4 hk5.2
      have k5 := hk5.kc.blk k4 hne
      rw [List.cons_append, T.rng_succ] at hJ5
      clear hRR hy k4 s4 z4 hk5
      refine hK.out _ _ ?_
      clear hK K
      refine lastG (i := 12) (by kernel_rfl) rfl (by rfl) (by decide) (fun K hK => ?_)
      go_simp
      refine hK.out _ _ ?_
      clear hK K
      refine doneG (by kernel_rfl) ?_ _
      refine S.nrm_intro ?_
      gi_wp2
      go_roundw
      case rel => exact ⟨k + 1, by omega, by go_num, hJ5, k5, s5, z5⟩
      case measure => simp [intOf]; omega
    · obtain rfl : k = M - 1 := by omega
      have hlt' : ¬ ((M - 1 : Nat) : Int) < N - 1 := by omega
      gi_wp2
      go_end0
      exact ⟨⟨_, rfl⟩, hJs⟩
/-- the looks of a night that are not left out -/
def T.isAt (ls : List T.T5) (o : Nat → Bool) (n : Int) (k : Nat) : Bool := (ls.getD k (0, 0, 0, 0, 0)).1 == n && !o k
def T.lofTo (ls : List T.T5) (o : Nat → Bool) (n : Int) (k : Nat) : List T.T5 := ((List.range k).filter (T.isAt ls o n)).map fun k => ls.getD k (0, 0, 0, 0, 0)
def T.lof (ls : List T.T5) (o : Nat → Bool) (n : Int) : List T.T5 := T.lofTo ls o n ls.length
theorem T.lof_take {n : Int} {k : Nat} : T.lofTo ls o n (k + 1) = T.lofTo ls o n k ++ (if T.isAt ls o n k then [ls.getD k (0, 0, 0, 0, 0)] else []) := by
  unfold T.lofTo
  rw [List.range_succ, List.filter_append, List.map_append]
  congr 1
  simp only [List.filter_cons, List.filter_nil]
  split <;> rfl
theorem T.lof_pre {n : Int} {k : Nat} (h : k ≤ ls.length) : T.lofTo ls o n k <+: T.lof ls o n := by
  unfold T.lof T.lofTo
  obtain ⟨t, ht⟩ := range_prefix h
  rw [← ht, List.filter_append, List.map_append]
  exact List.prefix_append _ _
theorem bk_out {P Q L : Value} {k : Nat} (h : k < 10) : (BkC N bl bh rl rh P Q L o)[8 + k]? = some (.bool (o k)) := by
  match k, h with
  | 0, _ => rfl
  | 1, _ => rfl
  | 2, _ => rfl
  | 3, _ => rfl
  | 4, _ => rfl
  | 5, _ => rfl
  | 6, _ => rfl
  | 7, _ => rfl
  | 8, _ => rfl
  | 9, _ => rfl
set_option maxRecDepth 100000 in
set_option maxHeartbeats 2000000 in
theorem looksOf_seq {n : Int} {B2 : Nat} (I : Lks w0 (.slice aL nL cL) ls) (h10 : ls.length ≤ 10) (hw0 : T.Sm w0 w) (hp : ∀ b, p b → w0.heap.size ≤ b) (hne : ¬ p B) (kB0 : mblk w B = some (.cells (BkC N bl bh rl rh (.slice aP nP cP) (.slice aQ nQ cQ) (.slice aL nL cL) o) 81 (0, 0))) (hne2 : ¬ p B2) (kC0 : mblk w B2 = some (.cells #[.int .i64 n] 3 (0, 0))) :
    T.Seq 129 #[.pointer (some ⟨B, 0, none⟩), .pointer (some ⟨B2, 0, none⟩)] (fun (x : T.T5) => #[LkV x.1 x.2.1 x.2.2.1 x.2.2.2.1 x.2.2.2.2]) (T.lof ls o n) p w := by
  intro l J W u hpq hJ hY h0
  have hw1 := hw0.trans (T.Sm.of u)
  have kB := u.blk kB0
  have kC := u.blk kC0
  clear hw0 kB0 kC0
  have HY := Lib.hid hY
  have HJ := Lib.hid (fun s X Y (h : J s X) (u : Up X Y) => T.own_up hJ h u)
  have HP := Lib.hid hp
  clear hY hJ hp
  refine callsIn_of_wp Try.func129 rfl trivial ?_ rfl
  simp only [Try.ntmps129, List.size_toArray, List.length_cons, List.length_nil, Nat.reduceAdd, Nat.reduceSub, Array.replicate_succ, Array.replicate_zero, List.push_toArray, List.append_toArray, List.nil_append, List.cons_append]
  have hn := I.len
  subst hn
  have HI := Lib.hid I
  clear I
  gi_wp2_with fail
  gi_loopw [10] (fun t wr => ∃ k : Nat, k ≤ ls.length ∧ t = .int .i64 k ∧ J (T.lofTo ls o n k) wr ∧ mblk wr B = some (.cells (BkC N bl bh rl rh (.slice aP nP cP) (.slice aQ nQ cQ) (.slice aL ls.length cL) o) 81 (0, 0)) ∧ mblk wr B2 = some (.cells #[.int .i64 n] 3 (0, 0)) ∧ T.Sm w0 wr ∧ W.heap.size ≤ wr.heap.size) (fun t _ => ls.length - (intOf t).toNat)
  case atStart => exact ⟨0, Nat.zero_le _, rfl, h0, kB, kC, hw1, Nat.le_refl _⟩
  case round =>
    clear h0 kB kC hw1 u
    obtain ⟨k, hk, rfl, hJs, kk, kc, hsm, hsz⟩ := hrel
    by_cases hlt : k < ls.length
    · obtain ⟨a1, c1, e1, _, hl, hm1⟩ := (HI.out.sm hsm).is
      injection e1 with e1 e2 e3
      subst e1 e3
      clear e2
      obtain ⟨g, off, rfl, gl, hc⟩ := hm1 (by omega)
      have x0 := hc k hlt 0 (by omega)
      have x1 := hc k hlt 1 (by omega)
      have x2 := hc k hlt 2 (by omega)
      have x3 := hc k hlt 3 (by omega)
      have x4 := hc k hlt 4 (by omega)
      have tk0 := Lib.hid (T.lof_take (ls := ls) (o := o) (n := n) (k := k))
      have LN := Lib.hid (T.lof_pre (o := o) (n := n) (show k + 1 ≤ ls.length from hlt))
      have E := Lib.hid (show T.isAt ls o n k = ((ls.getD k (0, 0, 0, 0, 0)).1 == n && !o k) from rfl)
      generalize T.isAt ls o n k = R at *
      generalize ls.getD k (0, 0, 0, 0, 0) = z at *
      obtain ⟨h, a, b, l', u'⟩ := z
      simp only [T.encL, Nat.add_zero] at x0 x1 x2 x3 x4
      replace E := Lib.hid (show R = (h == n && !o k) from E.out)
      clear hc hm1
      have lk := blk_lt kk
      have lc := blk_lt kc
      have kq := blk_new wr (.cells #[.int .i64 h, .int .i64 a, .int .i64 b, .int .i64 l', .int .i64 u'] 63) wr.heap.size rfl
      have kk2 := blk_keep (.cells #[.int .i64 h, .int .i64 a, .int .i64 b, .int .i64 l', .int .i64 u'] 63) kk
      have kc2 := blk_keep (.cells #[.int .i64 h, .int .i64 a, .int .i64 b, .int .i64 l', .int .i64 u'] 63) kc
      have ko := cellB kk2 (8 + k)
      rw [bk_out (by omega)] at ko
      generalize o k = ok at *
      have sm2 := hsm.trans (T.Sm.of ((Up.refl wr).alloc (.cells #[.int .i64 h, .int .i64 a, .int .i64 b, .int .i64 l', .int .i64 u'] 63)))
      have J2 := HJ.out _ _ _ hJs ((Up.refl wr).alloc (.cells #[.int .i64 h, .int .i64 a, .int .i64 b, .int .i64 l', .int .i64 u'] 63))
      have sz2 : W.heap.size ≤ (wr.alloc (.cells #[.int .i64 h, .int .i64 a, .int .i64 b, .int .i64 l', .int .i64 u'] 63)).heap.size := by simp; omega
      clear hJs hsm hsz
      by_cases e1 : h = n
      · have g1 : (h == n) = true := beq_iff_eq.2 e1
        have g2 : (h != n) = false := by simp [bne, g1]
        rw [g1, Bool.true_and] at E
        cases ok with
        | true =>
          rw [Bool.not_true] at E
          rw [E.out, if_neg Bool.false_ne_true, List.append_nil] at tk0
          clear LN E e1
          gi_wp2
          go_roundw
          case rel => exact ⟨k + 1, by omega, by go_num, by rw [tk0.out]; exact J2, kk2, kc2, sm2, sz2⟩
          case measure => simp [intOf]; omega
        | false =>
          rw [Bool.not_false] at E
          rw [E.out, if_pos rfl] at tk0
          rw [tk0.out] at LN
          obtain ⟨fn, tmps, assign, body, hy, hRR⟩ := HY.out _ (h, a, b, l', u') _ J2 LN.out
          clear J2 E e1
          gi_wp2_with fail
          refine hRR.mono ?_
          rintro e w5 ⟨rfl, hJ5, hk5⟩
          have s5 := T.Sm.kc sm2 HP.out hk5.kc
          have z5 := Nat.le_trans sz2 hk5.2
          have k5 := hk5.kc.blk kk2 hne
          have c5 := hk5.kc.blk kc2 hne2
          rw [← tk0.out] at hJ5
          clear hRR hy kk2 kc2 sm2 sz2 hk5
          gi_wp2
          go_roundw
          case rel => exact ⟨k + 1, by omega, by go_num, hJ5, k5, c5, s5, z5⟩
          case measure => simp [intOf]; omega
      · have g1 : (h == n) = false := beq_eq_false_iff_ne.2 e1
        have g2 : (h != n) = true := by simp [bne, g1]
        rw [g1, Bool.false_and] at E
        rw [E.out, if_neg Bool.false_ne_true, List.append_nil] at tk0
        clear LN E e1
        gi_wp2
        go_roundw
        case rel => exact ⟨k + 1, by omega, by go_num, by rw [tk0.out]; exact J2, kk2, kc2, sm2, sz2⟩
        case measure => simp [intOf]; omega
    · obtain rfl : k = ls.length := by omega
      gi_wp2
      go_end0
      exact ⟨⟨_, rfl⟩, hJs⟩
/-- what a look says -/
def T.say (x : T.T5) : T.T4 := ((1 + x.1, T.fst x.2.1 + x.2.2.1), x.2.2.2.1 - x.2.2.2.2, x.2.2.2.1 + x.2.2.2.2)
set_option maxRecDepth 100000 in
set_option maxHeartbeats 2000000 in
theorem said_any (n k v r e : Int) (w : World) (hn : 0 ≤ n ∧ n ≤ 8) (hk : k = 0 ∨ k = 1) (hv : 0 ≤ v ∧ v ≤ 4) (hr : -30000 ≤ r ∧ r ≤ 30000) (he : 0 ≤ e ∧ e ≤ 2000) : Calls Try.prog 116 #[LkV n k v r e] w fun E w' => E = .returned (T.tv (T.say (n, k, v, r, e))) ∧ Up w w' := by
  have HA1 := Lib.hid (fun w => thingOf_any (k := 2) (by omega) n (by omega) (by omega) w)
  have HA2 := Lib.hid (fun w => thingOf_any (k := k) (by omega) v (by omega) (by omega) w)
  have HE := Lib.hid (show T.tv (T.say (n, k, v, r, e)) = TiV (1 + n) (T.fst k + v) (r - e) (r + e) from rfl)
  rw [show T.fst 2 = 1 from rfl] at HA1
  have w1 : IntKind.i64.wrap (r - e) = r - e := IntWalk.i64_in _ (by omega)
  have w2 : IntKind.i64.wrap (r + e) = r + e := IntWalk.i64_in _ (by omega)
  obtain ⟨t1, ht1⟩ : ∃ z, 1 + n = z := ⟨_, rfl⟩
  obtain ⟨t2, ht2⟩ : ∃ z, T.fst k + v = z := ⟨_, rfl⟩
  obtain ⟨r1, hr1⟩ : ∃ z, r - e = z := ⟨_, rfl⟩
  obtain ⟨r2, hr2⟩ : ∃ z, r + e = z := ⟨_, rfl⟩
  rw [ht1] at HA1
  rw [ht2] at HA2
  rw [ht1, ht2, hr1, hr2] at HE
  rw [hr1] at w1
  rw [hr2] at w2
  generalize T.tv (T.say (n, k, v, r, e)) = RES at *
  have U0 := ((Up.refl w).alloc (.cells #[.int .i64 n, .int .i64 k, .int .i64 v, .int .i64 r, .int .i64 e] 63)).alloc (.cells (TiC 0 0 0 0) 145)
  have k0 := blk_keep (.cells (TiC 0 0 0 0) 145) (blk_new w (.cells #[.int .i64 n, .int .i64 k, .int .i64 v, .int .i64 r, .int .i64 e] 63) _ rfl)
  have k1 := blk_new (w.alloc (.cells #[.int .i64 n, .int .i64 k, .int .i64 v, .int .i64 r, .int .i64 e] 63)) (.cells (TiC 0 0 0 0) 145) (w.heap.size + 1) (by simp)
  clear ht1 ht2 hn hk hv hr he
  go_enter Try.func116, Try.ntmps116
  go_wp2_with fail
  refine wp_region_held_drew (S := fun w' => Up w w' ∧ mblk w' w.heap.size = some (.cells #[.int .i64 n, .int .i64 k, .int .i64 v, .int .i64 r, .int .i64 e] 63 (0, 0)) ∧ ∃ q : Value × Value × Value × Value, mblk w' (w.heap.size + 1) = some (.cells #[q.1, q.2.1, q.2.2.1, q.2.2.2] 145 (0, 0))) (by kernel_rfl) ⟨U0.drew, by rw [blk_drew]; exact k0, (.int .i64 0, .int .i64 0, .int .i64 0, .int .i64 0), by rw [blk_drew]; exact k1⟩ (fun hHeld => ?_)
  clear U0 k0 k1
  refine takeH (i := 0) (d := (some 3)) (v := ?v40) rfl rfl (by kernel_rfl) (by kernel_rfl) (by kernel_rfl) (fun _ _ _ h => h) (by rfl) ?hy40 (by assumption) ?_
  case hy40 => ((intro w hSw; (try dsimp only at hSw); (try go_split_ands); go_simp); try with_reducible rfl)
  simp only [Act.put, List.setIfInBounds_toArray, List.set_cons_zero, List.set_cons_succ]
  refine takeH (i := 1) (d := (some 4)) (v := ?v41) rfl rfl (by kernel_rfl) (by kernel_rfl) (by kernel_rfl) (fun _ _ _ h => h) (by rfl) ?hy41 (by assumption) ?_
  case hy41 => ((intro w hSw; (try dsimp only at hSw); (try go_split_ands); go_simp); try with_reducible rfl)
  simp only [Act.put, List.setIfInBounds_toArray, List.set_cons_zero, List.set_cons_succ]
  refine takeH (i := 3) (d := (some 6)) (v := ?v42) rfl rfl (by kernel_rfl) (by kernel_rfl) (by kernel_rfl) (fun _ _ _ h => h) (by rfl) ?hy42 (by assumption) ?_
  case hy42 => ((intro w hSw; (try dsimp only at hSw); (try go_split_ands); go_simp); try with_reducible rfl)
  simp only [Act.put, List.setIfInBounds_toArray, List.set_cons_zero, List.set_cons_succ]
  refine takeH (i := 4) (d := (some 7)) (v := ?v43) rfl rfl (by kernel_rfl) (by kernel_rfl) (by kernel_rfl) (fun _ _ _ h => h) (by rfl) ?hy43 (by assumption) ?_
  case hy43 => ((intro w hSw; (try dsimp only at hSw); (try go_split_ands); go_simp); try with_reducible rfl)
  simp only [Act.put, List.setIfInBounds_toArray, List.set_cons_zero, List.set_cons_succ]
  refine takeH (i := 5) (d := (some 8)) (v := ?v44) rfl rfl (by kernel_rfl) (by kernel_rfl) (by kernel_rfl) (fun _ _ _ h => h) (by rfl) ?hy44 (by assumption) ?_
  case hy44 => ((intro w hSw; (try dsimp only at hSw); (try go_split_ands); go_simp); try with_reducible rfl)
  simp only [Act.put, List.setIfInBounds_toArray, List.set_cons_zero, List.set_cons_succ]
  refine takeH (i := 6) (d := (some 9)) (v := ?v45) rfl rfl (by kernel_rfl) (by kernel_rfl) (by kernel_rfl) (fun _ _ _ h => h) (by rfl) ?hy45 (by assumption) ?_
  case hy45 => ((intro w hSw; (try dsimp only at hSw); (try go_split_ands); go_simp); try with_reducible rfl)
  simp only [Act.put, List.setIfInBounds_toArray, List.set_cons_zero, List.set_cons_succ]
  refine takeH (i := 9) (d := (some 12)) (v := ?v46) rfl rfl (by kernel_rfl) (by kernel_rfl) (by kernel_rfl) (fun _ _ _ h => h) (by rfl) ?hy46 (by assumption) ?_
  case hy46 => ((intro w hSw; (try dsimp only at hSw); (try go_split_ands); go_simp); try with_reducible rfl)
  simp only [Act.put, List.setIfInBounds_toArray, List.set_cons_zero, List.set_cons_succ]
  refine takeH (i := 10) (d := (some 13)) (v := ?v47) rfl rfl (by kernel_rfl) (by kernel_rfl) (by kernel_rfl) (fun _ _ _ h => h) (by rfl) ?hy47 (by assumption) ?_
  case hy47 => ((intro w hSw; (try dsimp only at hSw); (try go_split_ands); go_simp); try with_reducible rfl)
  simp only [Act.put, List.setIfInBounds_toArray, List.set_cons_zero, List.set_cons_succ]
  refine takeH (i := 11) (d := (some 14)) (v := ?v48) rfl rfl (by kernel_rfl) (by kernel_rfl) (by kernel_rfl) (fun _ _ _ h => h) (by rfl) ?hy48 (by assumption) ?_
  case hy48 => ((intro w hSw; (try dsimp only at hSw); (try go_split_ands); go_simp); try with_reducible rfl)
  simp only [Act.put, List.setIfInBounds_toArray, List.set_cons_zero, List.set_cons_succ]
  refine takeH (i := 12) (d := (some 15)) (v := ?v49) rfl rfl (by kernel_rfl) (by kernel_rfl) (by kernel_rfl) (fun _ _ _ h => h) (by rfl) ?hy49 (by assumption) ?_
  case hy49 => ((intro w hSw; (try dsimp only at hSw); (try go_split_ands); go_simp); try with_reducible rfl)
  simp only [Act.put, List.setIfInBounds_toArray, List.set_cons_zero, List.set_cons_succ]
  refine takeH (i := 14) (d := (some 17)) (v := ?v50) rfl rfl (by kernel_rfl) (by kernel_rfl) (by kernel_rfl) (fun _ _ _ h => h) (by rfl) ?hy50 (by assumption) ?_
  case hy50 => ((intro w hSw; (try dsimp only at hSw); (try go_split_ands); go_simp); try with_reducible rfl)
  simp only [Act.put, List.setIfInBounds_toArray, List.set_cons_zero, List.set_cons_succ]
  refine takeH (i := 15) (d := (some 18)) (v := ?v51) rfl rfl (by kernel_rfl) (by kernel_rfl) (by kernel_rfl) (fun _ _ _ h => h) (by rfl) ?hy51 (by assumption) ?_
  case hy51 => ((intro w hSw; (try dsimp only at hSw); (try go_split_ands); go_simp); try with_reducible rfl)
  simp only [Act.put, List.setIfInBounds_toArray, List.set_cons_zero, List.set_cons_succ]
  refine takeH (i := 16) (d := (some 19)) (v := ?v52) rfl rfl (by kernel_rfl) (by kernel_rfl) (by kernel_rfl) (fun _ _ _ h => h) (by rfl) ?hy52 (by assumption) ?_
  case hy52 => ((intro w hSw; (try dsimp only at hSw); (try go_split_ands); go_simp); try with_reducible rfl)
  simp only [Act.put, List.setIfInBounds_toArray, List.set_cons_zero, List.set_cons_succ]
  refine takeH (i := 17) (d := (some 20)) (v := ?v53) rfl rfl (by kernel_rfl) (by kernel_rfl) (by kernel_rfl) (fun _ _ _ h => h) (by rfl) ?hy53 (by assumption) ?_
  case hy53 => ((intro w hSw; (try dsimp only at hSw); (try go_split_ands); go_simp); try with_reducible rfl)
  simp only [Act.put, List.setIfInBounds_toArray, List.set_cons_zero, List.set_cons_succ]
  refine takeH (i := 13) (d := (some 16)) (v := ?v54) rfl rfl (by kernel_rfl) (by kernel_rfl) (by kernel_rfl) (fun _ _ _ h => h) (by rfl) ?hy54 (by assumption) ?_
  case hy54 => ((intro w hSw; (try dsimp only at hSw); (try go_split_ands); go_simp); try with_reducible rfl)
  simp only [Act.put, List.setIfInBounds_toArray, List.set_cons_zero, List.set_cons_succ]
  refine takeH (i := 18) (d := (some 21)) (v := ?v55) rfl rfl (by kernel_rfl) (by kernel_rfl) (by kernel_rfl) (fun _ _ _ h => h) (by rfl) ?hy55 (by assumption) ?_
  case hy55 => ((intro w hSw; (try dsimp only at hSw); (try go_split_ands); go_simp); try with_reducible rfl)
  simp only [Act.put, List.setIfInBounds_toArray, List.set_cons_zero, List.set_cons_succ]
  refine takeH (i := 19) (d := (some 22)) (v := ?v56) rfl rfl (by kernel_rfl) (by kernel_rfl) (by kernel_rfl) (fun _ _ _ h => h) (by rfl) ?hy56 (by assumption) ?_
  case hy56 => ((intro w hSw; (try dsimp only at hSw); (try go_split_ands); go_simp); try with_reducible rfl)
  simp only [Act.put, List.setIfInBounds_toArray, List.set_cons_zero, List.set_cons_succ]
  refine wpAnyH_ready (rs := [2]) (by kernel_rfl) (by simp) ?_
  refine AllReadyH.cons rfl (fun K hK => ?_) AllReadyH.nil
  go_simp
  refine (HA1.out _).mono ?_
  rintro e' w1 ⟨rfl, u1⟩
  go_wp2_with fail
  refine hK.out _ _ ⟨hHeld.1.trans u1, u1.blk hHeld.2.1, hHeld.2.2.elim fun q k => ⟨q, u1.blk k⟩⟩ (fun hHeld => ?_)
  clear hK K u1
  refine wpAnyH_ready (rs := [7]) (by kernel_rfl) (by simp) ?_
  refine AllReadyH.cons rfl (fun K hK => ?_) AllReadyH.nil
  go_simp
  refine (HA2.out _).mono ?_
  rintro e' w1 ⟨rfl, u1⟩
  go_wp2_with fail
  refine hK.out _ _ ⟨hHeld.1.trans u1, u1.blk hHeld.2.1, hHeld.2.2.elim fun q k => ⟨q, u1.blk k⟩⟩ (fun hHeld => ?_)
  clear hK K u1
  refine takeH (i := 8) (d := (some 11)) (v := ?v59) rfl rfl (by kernel_rfl) (by kernel_rfl) (by kernel_rfl) (fun _ _ _ h => h) (by rfl) ?hy59 (by assumption) ?_
  case hy59 => ((intro w hSw; (try dsimp only at hSw); (try go_split_ands); go_simp); try with_reducible rfl)
  simp only [Act.put, List.setIfInBounds_toArray, List.set_cons_zero, List.set_cons_succ]
  refine takeH (i := 20) (d := (some 23)) (v := ?v60) rfl rfl (by kernel_rfl) (by kernel_rfl) (by kernel_rfl) (fun _ _ _ h => h) (by rfl) ?hy60 (by assumption) ?_
  case hy60 => ((intro w hSw; (try dsimp only at hSw); (try go_split_ands); go_simp); try with_reducible rfl)
  simp only [Act.put, List.setIfInBounds_toArray, List.set_cons_zero, List.set_cons_succ]
  obtain ⟨q, kq⟩ := hHeld.2.2
  have fc := cellB kq
  have gc := frozB kq
  have C := Lib.hid (set4_same kq (.int .i64 t1) (.int .i64 t2) (.int .i64 r1) (.int .i64 r2))
  have V := hHeld.1.set4 (b := w.heap.size + 1) (by omega) (.int .i64 t1) (.int .i64 t2) (.int .i64 r1) (.int .i64 r2)
  have kk := (set4_other w1 (b := w.heap.size + 1) (n := w.heap.size) (by omega) (.int .i64 t1) (.int .i64 t2) (.int .i64 r1) (.int .i64 r2)).trans hHeld.2.1
  refine wpAnyH_ready (rs := [21]) (by kernel_rfl) (by simp) ?_
  refine AllReadyH.cons rfl (fun K hK => ?_) AllReadyH.nil
  go_simp
  obtain ⟨W2, hW2⟩ : ∃ x, ((((w1.setCell ⟨w.heap.size + 1, 0, none⟩ (.int .i64 t1)).setCell ⟨w.heap.size + 1, 1, none⟩ (.int .i64 t2)).setCell ⟨w.heap.size + 1, 2, none⟩ (.int .i64 r1)).setCell ⟨w.heap.size + 1, 3, none⟩ (.int .i64 r2)) = x := ⟨_, rfl⟩
  have C2 := C.out
  rw [hW2] at C2 V kk ⊢
  refine hK.out _ _ ⟨V, kk, (_, _, _, _), C2⟩ (fun hHeld2 => ?_)
  clear hK K hW2 kq fc gc hHeld
  refine wpAnyH_done (by kernel_rfl) ?_ _
  clear hHeld2
  have c7 := cellB C2
  go_wp2_with fail
  exact bodyPost_ret (v := TiV t1 t2 r1 r2) (by simp [results, Try.results116, go_sem, c7]) rfl ⟨by rw [HE.out], V⟩
end

end Go.Proofs.Ytlpkheoljbdajaa
