import Derived.Test.YtlpkheoljbdajaaExq
/- The contract of holds. -/
namespace Go.Proofs.Ytlpkheoljbdajaa
open Go.RowKit Go.Shelf
attribute [local go_sem] Oper.semAt_some

/-- do numbers keep to a tie, as the program asks? -/
def T.keep (y : Int → Int) (t : T.T4) : Bool := inB (IntKind.i64.wrap (y t.1.1 - y t.1.2)) t.2.1 t.2.2
section
variable {M bl bh rl rh : Int} {aP aQ aL aT : Option Addr} {nP cP nQ cQ nL cL nT cT : Nat} {o : Nat → Bool}
set_option maxRecDepth 100000 in
set_option maxHeartbeats 2000000 in
theorem holds_any {w0 w : World} {ts : List T.T4} {cs : Array Value} {y : Int → Int} (I : Tis w0 (.slice aT nT cT) ts) (hu : Up w0 w) (hts : T.Tin ts) (hl : ts.length ≤ 300) (hO : T.OC cs y) :
    Calls Try.prog 58 #[WeV M bl bh rl rh (.slice aP nP cP) (.slice aQ nQ cQ) (.slice aL nL cL) o (.slice aT nT cT), .agg cs] w fun e w' => e = .returned (.bool (ts.all (T.keep y))) ∧ Up w w' := by
  have hn := I.len
  have HI := Lib.hid (I.up hu)
  have HT := Lib.hid hts
  have HO := Lib.hid hO
  have hok := hO.one
  have hsz := Lib.hid hO.size
  have HZ := Lib.hid NZ_size
  subst hn
  clear I hts hO hu
  refine (callsIn_wide (n := 5)).1 ?_
  refine callsIn_of_wp Try.func58 rfl trivial ?_ rfl
  simp only [Try.ntmps58, List.size_toArray, List.length_cons, List.length_nil, Nat.reduceAdd, Nat.reduceSub, Array.replicate_succ, Array.replicate_zero, List.push_toArray, List.append_toArray, List.nil_append, List.cons_append]
  have hmx : Try.prog.follows .mixedOrders = true := by kernel_rfl
  gi_wp2_with fail
  obtain ⟨W0, hW0⟩ : ∃ x, (w.alloc (.cells (WeC M bl bh rl rh (.slice aP nP cP) (.slice aQ nQ cQ) (.slice aL nL cL) o (.slice aT ts.length cT)) 90)).alloc (.cells cs 85) = x := ⟨_, rfl⟩
  obtain ⟨q0, e0⟩ : ∃ x, w.heap.size = x := ⟨_, rfl⟩
  obtain ⟨q1, e1⟩ : ∃ x, q0 + 1 = x := ⟨_, rfl⟩
  have U0 : Up w W0 := by rw [← hW0]; exact ((Up.refl w).alloc _).alloc _
  have kO : mblk W0 q1 = some (.cells cs 85 (0, 0)) := by rw [← hW0]; exact blk_new _ _ _ (by simp; omega)
  rw [hW0, e0, e1]
  clear hW0
  gi_loopw [10] (fun i wr => ∃ k : Nat, k ≤ ts.length ∧ i = .int .i64 k ∧ Hid (ts.all (T.keep y) = (ts.drop k).all (T.keep y)) ∧ Up w wr ∧ mblk wr q1 = some (.cells cs 85 (0, 0))) (fun i _ => ts.length - (intOf i).toNat)
  case atStart => exact ⟨0, Nat.zero_le _, rfl, Lib.hid rfl, U0, kO⟩
  case round =>
    clear U0 kO
    obtain ⟨k, hk, rfl, hall, V, kO⟩ := hrel
    by_cases hlt : k < ts.length
    · obtain ⟨g, off, rfl, gl, hc⟩ := (HI.out.up V).at (by omega)
      have x0 := hc k hlt 0 (by omega)
      have x1 := hc k hlt 1 (by omega)
      have x2 := hc k hlt 2 (by omega)
      have x3 := hc k hlt 3 (by omega)
      obtain ⟨⟨i1, i2⟩, ⟨i3, i4⟩, _⟩ := HT.out _ (T.getD_mem (d := ((0, 0), 0, 0)) hlt)
      have hdr := Lib.hid (all_drop' (p := T.keep y) (d := ((0, 0), 0, 0)) hlt)
      clear hc
      generalize ts.getD k ((0, 0), 0, 0) = z at *
      obtain ⟨⟨a, c⟩, l, u⟩ := z
      simp only at i1 i2 i3 i4
      obtain ⟨a, rfl⟩ := Int.eq_ofNat_of_zero_le i1
      obtain ⟨c, rfl⟩ := Int.eq_ofNat_of_zero_le i3
      simp only [T.encT, Nat.add_zero] at x0 x1 x2 x3
      have v1 := HO.out.at_ a (by omega)
      have v2 := HO.out.at_ c (by omega)
      have j1 : a < 17 := by omega
      have j2 : c < 17 := by omega
      have j3 : (a : Int) < 17 := by omega
      have j4 : (c : Int) < 17 := by omega
      obtain ⟨n1, hn1⟩ : ∃ x, y a = x := ⟨_, rfl⟩
      obtain ⟨n2, hn2⟩ : ∃ x, y c = x := ⟨_, rfl⟩
      rw [hn1] at v1
      rw [hn2] at v2
      replace hdr := Lib.hid (show (ts.drop k).all (T.keep y) = (inB (IntKind.i64.wrap (n1 - n2)) l u && (ts.drop (k + 1)).all (T.keep y)) by rw [hdr.out]; unfold T.keep; show (inB (IntKind.i64.wrap (y a - y c)) l u && _) = _; rw [hn1, hn2])
      clear i1 i2 i3 i4 hn1 hn2 HT HI
      have lO := blk_lt kO
      gi_wp2_with fail
      obtain ⟨W1, hW1⟩ : ∃ x, wr.alloc (.cells (TiC a c l u) 145) = x := ⟨_, rfl⟩
      have V1 : Up wr W1 := by rw [← hW1]; exact (Up.refl wr).alloc _
      have kt : mblk W1 wr.heap.size = some (.cells (TiC a c l u) 145 (0, 0)) := by rw [← hW1]; exact blk_new _ _ _ rfl
      obtain ⟨q, hq⟩ : ∃ x, wr.heap.size = x := ⟨_, rfl⟩
      rw [hq] at kt
      replace kO := V1.blk kO
      replace V := V.trans V1
      try rw [hW1, hq]
      clear hW1 V1 hq x0 x1 x2 x3
      have F1 := Lib.hid (fun w (u : Up W1 w) => show w.cell? ⟨q1, a, none⟩ = some (.int .i64 n1) from (cellB (u.blk kO) a).trans v1)
      have F2 := Lib.hid (fun w (u : Up W1 w) => show w.cell? ⟨q1, c, none⟩ = some (.int .i64 n2) from (cellB (u.blk kO) c).trans v2)
      have F3 := Lib.hid (fun w (u : Up W1 w) => u.blk kt)
      clear v1 v2
      refine wpIn_nrm ?_
      refine T.regionQ (fun w' => Up W1 w') 18 1 hmx (by kernel_rfl) (by kernel_rfl) ((Up.refl W1).drew) (fun hCl => ?_)
      refine T.qTake (i := 0) (d := (some 14)) (v := ?v1) rfl rfl (by kernel_rfl) (by decide) hCl (by kernel_rfl) (by kernel_rfl) (by kernel_rfl) (by rfl) ?hy1 (fun _ _ _ => trivial) (fun hCl' => ?_)
      case hy1 => (intro w hSw; refine T.qVal ?_ hSw; (have f1 := F1.out w hSw; have f2 := F2.out w hSw; have f3 := F3.out w hSw); go_simp; try with_reducible rfl)
      simp only [Act.put, List.setIfInBounds_toArray, List.set_cons_zero, List.set_cons_succ]
      replace hCl := hCl'; clear hCl'
      refine T.qTake (i := 5) (d := (some 19)) (v := ?v2) rfl rfl (by kernel_rfl) (by decide) hCl (by kernel_rfl) (by kernel_rfl) (by kernel_rfl) (by rfl) ?hy2 (fun _ _ _ => trivial) (fun hCl' => ?_)
      case hy2 => (intro w hSw; refine T.qVal ?_ hSw; (have f1 := F1.out w hSw; have f2 := F2.out w hSw; have f3 := F3.out w hSw); go_simp; try with_reducible rfl)
      simp only [Act.put, List.setIfInBounds_toArray, List.set_cons_zero, List.set_cons_succ]
      replace hCl := hCl'; clear hCl'
      refine T.qTake (i := 11) (d := (some 25)) (v := ?v3) rfl rfl (by kernel_rfl) (by decide) hCl (by kernel_rfl) (by kernel_rfl) (by kernel_rfl) (by rfl) ?hy3 (fun _ _ _ => trivial) (fun hCl' => ?_)
      case hy3 => (intro w hSw; refine T.qVal ?_ hSw; (have f1 := F1.out w hSw; have f2 := F2.out w hSw; have f3 := F3.out w hSw); go_simp; try with_reducible rfl)
      simp only [Act.put, List.setIfInBounds_toArray, List.set_cons_zero, List.set_cons_succ]
      replace hCl := hCl'; clear hCl'
      refine T.qTake (i := 14) (d := (some 28)) (v := ?v4) rfl rfl (by kernel_rfl) (by decide) hCl (by kernel_rfl) (by kernel_rfl) (by kernel_rfl) (by rfl) ?hy4 (fun _ _ _ => trivial) (fun hCl' => ?_)
      case hy4 => (intro w hSw; refine T.qVal ?_ hSw; (have f1 := F1.out w hSw; have f2 := F2.out w hSw; have f3 := F3.out w hSw); go_simp; try with_reducible rfl)
      simp only [Act.put, List.setIfInBounds_toArray, List.set_cons_zero, List.set_cons_succ]
      replace hCl := hCl'; clear hCl'
      refine T.qTake (i := 1) (d := (some 15)) (v := ?v5) rfl rfl (by kernel_rfl) (by decide) hCl (by kernel_rfl) (by kernel_rfl) (by kernel_rfl) (by rfl) ?hy5 (fun _ _ _ => trivial) (fun hCl' => ?_)
      case hy5 => (intro w hSw; refine T.qVal ?_ hSw; (have f1 := F1.out w hSw; have f2 := F2.out w hSw; have f3 := F3.out w hSw); go_simp; try with_reducible rfl)
      simp only [Act.put, List.setIfInBounds_toArray, List.set_cons_zero, List.set_cons_succ]
      replace hCl := hCl'; clear hCl'
      refine T.qTake (i := 6) (d := (some 20)) (v := ?v6) rfl rfl (by kernel_rfl) (by decide) hCl (by kernel_rfl) (by kernel_rfl) (by kernel_rfl) (by rfl) ?hy6 (fun _ _ _ => trivial) (fun hCl' => ?_)
      case hy6 => (intro w hSw; refine T.qVal ?_ hSw; (have f1 := F1.out w hSw; have f2 := F2.out w hSw; have f3 := F3.out w hSw); go_simp; try with_reducible rfl)
      simp only [Act.put, List.setIfInBounds_toArray, List.set_cons_zero, List.set_cons_succ]
      replace hCl := hCl'; clear hCl'
      refine T.qTake (i := 12) (d := (some 26)) (v := ?v7) rfl rfl (by kernel_rfl) (by decide) hCl (by kernel_rfl) (by kernel_rfl) (by kernel_rfl) (by rfl) ?hy7 (fun _ _ _ => trivial) (fun hCl' => ?_)
      case hy7 => (intro w hSw; refine T.qVal ?_ hSw; (have f1 := F1.out w hSw; have f2 := F2.out w hSw; have f3 := F3.out w hSw); go_simp; try with_reducible rfl)
      simp only [Act.put, List.setIfInBounds_toArray, List.set_cons_zero, List.set_cons_succ]
      replace hCl := hCl'; clear hCl'
      refine T.qTake (i := 15) (d := (some 29)) (v := ?v8) rfl rfl (by kernel_rfl) (by decide) hCl (by kernel_rfl) (by kernel_rfl) (by kernel_rfl) (by rfl) ?hy8 (fun _ _ _ => trivial) (fun hCl' => ?_)
      case hy8 => (intro w hSw; refine T.qVal ?_ hSw; (have f1 := F1.out w hSw; have f2 := F2.out w hSw; have f3 := F3.out w hSw); go_simp; try with_reducible rfl)
      simp only [Act.put, List.setIfInBounds_toArray, List.set_cons_zero, List.set_cons_succ]
      replace hCl := hCl'; clear hCl'
      refine T.qTake (i := 2) (d := (some 16)) (v := ?v9) rfl rfl (by kernel_rfl) (by decide) hCl (by kernel_rfl) (by kernel_rfl) (by kernel_rfl) (by rfl) ?hy9 (fun _ _ _ => trivial) (fun hCl' => ?_)
      case hy9 => (intro w hSw; refine T.qVal ?_ hSw; (have f1 := F1.out w hSw; have f2 := F2.out w hSw; have f3 := F3.out w hSw); go_simp; try with_reducible rfl)
      simp only [Act.put, List.setIfInBounds_toArray, List.set_cons_zero, List.set_cons_succ]
      replace hCl := hCl'; clear hCl'
      refine T.qTake (i := 7) (d := (some 21)) (v := ?v10) rfl rfl (by kernel_rfl) (by decide) hCl (by kernel_rfl) (by kernel_rfl) (by kernel_rfl) (by rfl) ?hy10 (fun _ _ _ => trivial) (fun hCl' => ?_)
      case hy10 => (intro w hSw; refine T.qVal ?_ hSw; (have f1 := F1.out w hSw; have f2 := F2.out w hSw; have f3 := F3.out w hSw); go_simp; try with_reducible rfl)
      simp only [Act.put, List.setIfInBounds_toArray, List.set_cons_zero, List.set_cons_succ]
      replace hCl := hCl'; clear hCl'
      refine T.qTake (i := 13) (d := (some 27)) (v := ?v11) rfl rfl (by kernel_rfl) (by decide) hCl (by kernel_rfl) (by kernel_rfl) (by kernel_rfl) (by rfl) ?hy11 (fun _ _ _ => trivial) (fun hCl' => ?_)
      case hy11 => (intro w hSw; refine T.qVal ?_ hSw; (have f1 := F1.out w hSw; have f2 := F2.out w hSw; have f3 := F3.out w hSw); go_simp; try with_reducible rfl)
      simp only [Act.put, List.setIfInBounds_toArray, List.set_cons_zero, List.set_cons_succ]
      replace hCl := hCl'; clear hCl'
      refine T.qTake (i := 16) (d := (some 30)) (v := ?v12) rfl rfl (by kernel_rfl) (by decide) hCl (by kernel_rfl) (by kernel_rfl) (by kernel_rfl) (by rfl) ?hy12 (fun _ _ _ => trivial) (fun hCl' => ?_)
      case hy12 => (intro w hSw; refine T.qVal ?_ hSw; (have f1 := F1.out w hSw; have f2 := F2.out w hSw; have f3 := F3.out w hSw); go_simp; try with_reducible rfl)
      simp only [Act.put, List.setIfInBounds_toArray, List.set_cons_zero, List.set_cons_succ]
      replace hCl := hCl'; clear hCl'
      refine T.qTake (i := 3) (d := (some 17)) (v := ?v13) rfl rfl (by kernel_rfl) (by decide) hCl (by kernel_rfl) (by kernel_rfl) (by kernel_rfl) (by rfl) ?hy13 (fun _ _ _ => trivial) (fun hCl' => ?_)
      case hy13 => (intro w hSw; refine T.qVal ?_ hSw; (have f1 := F1.out w hSw; have f2 := F2.out w hSw; have f3 := F3.out w hSw); go_simp; try with_reducible rfl)
      simp only [Act.put, List.setIfInBounds_toArray, List.set_cons_zero, List.set_cons_succ]
      replace hCl := hCl'; clear hCl'
      refine T.qTake (i := 8) (d := (some 22)) (v := ?v14) rfl rfl (by kernel_rfl) (by decide) hCl (by kernel_rfl) (by kernel_rfl) (by kernel_rfl) (by rfl) ?hy14 (fun _ _ _ => trivial) (fun hCl' => ?_)
      case hy14 => (intro w hSw; refine T.qVal ?_ hSw; (have f1 := F1.out w hSw; have f2 := F2.out w hSw; have f3 := F3.out w hSw); go_simp; try with_reducible rfl)
      simp only [Act.put, List.setIfInBounds_toArray, List.set_cons_zero, List.set_cons_succ]
      replace hCl := hCl'; clear hCl'
      refine T.qTake (i := 4) (d := (some 18)) (v := ?v15) rfl rfl (by kernel_rfl) (by decide) hCl (by kernel_rfl) (by kernel_rfl) (by kernel_rfl) (by rfl) ?hy15 (fun _ _ _ => trivial) (fun hCl' => ?_)
      case hy15 => (intro w hSw; refine T.qVal ?_ hSw; (have f1 := F1.out w hSw; have f2 := F2.out w hSw; have f3 := F3.out w hSw); go_simp; try with_reducible rfl)
      simp only [Act.put, List.setIfInBounds_toArray, List.set_cons_zero, List.set_cons_succ]
      replace hCl := hCl'; clear hCl'
      refine T.qTake (i := 9) (d := (some 23)) (v := ?v16) rfl rfl (by kernel_rfl) (by decide) hCl (by kernel_rfl) (by kernel_rfl) (by kernel_rfl) (by rfl) ?hy16 (fun _ _ _ => trivial) (fun hCl' => ?_)
      case hy16 => (intro w hSw; refine T.qVal ?_ hSw; (have f1 := F1.out w hSw; have f2 := F2.out w hSw; have f3 := F3.out w hSw); go_simp; try with_reducible rfl)
      simp only [Act.put, List.setIfInBounds_toArray, List.set_cons_zero, List.set_cons_succ]
      replace hCl := hCl'; clear hCl'
      refine T.qTake (i := 10) (d := (some 24)) (v := ?v17) rfl rfl (by kernel_rfl) (by decide) hCl (by kernel_rfl) (by kernel_rfl) (by kernel_rfl) (by rfl) ?hy17 (fun _ _ _ => trivial) (fun hCl' => ?_)
      case hy17 => (intro w hSw; refine T.qVal ?_ hSw; (have f1 := F1.out w hSw; have f2 := F2.out w hSw; have f3 := F3.out w hSw); go_simp; try with_reducible rfl)
      simp only [Act.put, List.setIfInBounds_toArray, List.set_cons_zero, List.set_cons_succ]
      replace hCl := hCl'; clear hCl'
      refine T.qTake (i := 17) (d := (some 31)) (v := (.bool (inB (IntKind.i64.wrap (n1 - n2)) l u))) rfl rfl (by kernel_rfl) (by decide) hCl (by kernel_rfl) (by kernel_rfl) (by kernel_rfl) (by rfl) ?hy18 (fun _ _ _ => trivial) (fun hCl' => ?_)
      case hy18 => (intro w hSw; (have f1 := F1.out w hSw; have f2 := F2.out w hSw; have f3 := F3.out w hSw); go_simp; (refine (callsIn_wide.2 (within_any _ l u w)).mono ?_; rintro e w3 ⟨rfl, rfl⟩; exact ⟨rfl, hSw⟩))
      simp only [Act.put, List.setIfInBounds_toArray, List.set_cons_zero, List.set_cons_succ]
      replace hCl := hCl'; clear hCl'
      refine T.tail_intro (by kernel_rfl) (fun Y hY => ?_)
      have kO2 := hY.blk kO
      replace V := V.trans hY
      cases hin : inB (IntKind.i64.wrap (n1 - n2)) l u with
      | false =>
        rw [hin, Bool.false_and] at hdr
        refine lastG (i := 18) (by kernel_rfl) rfl (by rfl) (by decide) (fun K hK => ?_)
        go_simp
        refine hK.out _ _ ?_
        clear hK K
        refine doneG (by kernel_rfl) ?_ _
        refine S.nrm_intro ?_
        clear kO kt F1 F2 F3
        gi_wp2
        go_ret
        exact ⟨by rw [hall.out, hdr.out]; rfl, V⟩
      | true =>
        rw [hin, Bool.true_and] at hdr
        refine lastG (i := 18) (by kernel_rfl) rfl (by rfl) (by decide) (fun K hK => ?_)
        go_simp
        refine hK.out _ _ ?_
        clear hK K
        refine doneG (by kernel_rfl) ?_ _
        refine S.nrm_intro ?_
        clear kO kt F1 F2 F3
        gi_wp2
        go_roundw
        case rel => exact ⟨k + 1, by omega, by go_num, Lib.hid (hall.out.trans hdr.out), V, kO2⟩
        case measure => simp [intOf]; omega
    · obtain rfl : k = ts.length := by omega
      gi_wp2
      go_ret
      exact ⟨by rw [hall.out, List.drop_length]; rfl, V⟩
end

/-- numbers of which the program says that they keep to all ties keep to them: nothing wraps around -/
theorem T.keep_is {ts : List T.T4} {A : Int → Prop} (W : T.Wok ts A) (h0 : A 0) {y : Int → Int} (hy : T.Fine y) (y0 : y 0 = 0) : ts.all (T.keep y) = true ↔ T.Sat true ts y := by
  have both : (∀ t ∈ ts, T.Hol y t) ↔ T.Sat true ts y := by
    constructor
    · intro h t ht
      have q := (h t ht).2
      show y t.1.1 ≤ y t.1.2 + t.2.2
      omega
    · intro h t ht
      have q : y t.1.1 ≤ y t.1.2 + t.2.2 := h t ht
      have q2 : -y t.1.1 ≤ -y t.1.2 + -t.2.1 := (W.neg y).1 h t ht
      exact ⟨by omega, by omega⟩
  rw [← both, List.all_eq_true]
  constructor
  · intro h
    have k64 : ∀ x : Int, -9223372036854775808 ≤ x → x ≤ 9223372036854775807 → IntKind.i64.wrap x = x := fun x a b => IntWalk.i64_in _ (by omega)
    have one : ∀ t ∈ ts, ∀ B : Int, 0 ≤ B → B ≤ 1000000000 → -B ≤ y t.1.2 → y t.1.2 ≤ B → (-(B + 10000000) ≤ y t.1.1 ∧ y t.1.1 ≤ B + 10000000) ∧ T.Hol y t := by
      intro t ht B hB hB2 b1 b2
      obtain ⟨hi, _, ⟨⟨l1, l2⟩, u1, u2⟩⟩ := W.tin t ht
      have f := hy t.1.1 hi.1 hi.2
      have q := h t ht
      unfold T.keep at q
      rw [inB_iff] at q
      have f1 : -9223372036854775808 ≤ y t.1.1 := f.1
      have f2 : y t.1.1 ≤ 9223372036854775807 := f.2
      have e : IntKind.i64.wrap (y t.1.1 - y t.1.2) = y t.1.1 - y t.1.2 := by
        rw [IntKind.wrap_i64] at q ⊢
        omega
      rw [e] at q
      exact ⟨by omega, q⟩
    have rng : ∀ n i, T.Rn ts 0 n i → n ≤ 50 → -(10000000 * (n : Int)) ≤ y i ∧ y i ≤ 10000000 * n := by
      intro n i hR
      induction hR with
      | here => intro _; rw [y0]; omega
      | step ht _ ih =>
        intro hn
        obtain ⟨a, b⟩ := ih (by omega)
        have := (one _ ht _ (by omega) (by omega) a b).1
        push_cast
        omega
    intro t ht
    obtain ⟨n, hn, hR⟩ := W.con 0 t.1.2 h0 (W.ali t ht).2
    obtain ⟨a, b⟩ := rng n _ hR (by omega)
    exact (one t ht _ (by omega) (by omega) a b).2
  · intro h t ht
    have hH := h t ht
    obtain ⟨_, _, ⟨⟨l1, l2⟩, u1, u2⟩⟩ := W.tin t ht
    unfold T.keep
    rw [inB_iff]
    unfold T.Hol at hH
    rw [IntWalk.i64_in _ (by omega)]
    exact hH

end Go.Proofs.Ytlpkheoljbdajaa
