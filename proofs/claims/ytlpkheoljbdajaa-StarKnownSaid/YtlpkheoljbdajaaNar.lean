import Derived.Test.YtlpkheoljbdajaaBfm
/- The contract of narrow, to each side. -/
namespace Go.Proofs.Ytlpkheoljbdajaa
open Go.RowKit Go.Shelf

section
variable {P : Program} {b : Frame} {a : Act} {k : List Item} {cs : List Frame} {w : World} {F : Fence} {n : Nat} {Q : Exit → Act → World → Prop}
theorem stepR_scope {c : Code} : step P (lone (b.atR a (.code (.scope c) :: k)) cs w) = .next (lone (b.atR a (.code c :: .inScope c :: k)) cs w) :=
  step_lone_go (by simp [stepG, stepG.exec, Frame.atR])
theorem stepR_inScope {c : Code} : step P (lone (b.atR a (.inScope c :: k)) cs w) = .next (lone (b.atR a k) cs w) :=
  step_lone_go (by simp [stepG, stepG.exec, Frame.atR])
/-- a scope that is left by no jump, inside a fence -/
theorem wpIn_scope_straight {c : Code} (h : c.wpIn F n P (Exit.noGoto Q) a w) : (Code.scope c).wpIn F n P Q a w := by
  intro b k cs hro hb hr
  have h0 : (lone (b.atR a (.code (.scope c) :: k)) cs w).fenced P F := fenced_calm hb hr rfl
  obtain ⟨e, a₁, w₁, hq, harr⟩ := h b (.inScope c :: k) cs hro hb hr
  cases e with
  | normal => exact ⟨.normal, a₁, w₁, hq, .head h0 stepR_scope (StepsIn.trans harr (.one (fenced_calm hb hr rfl) stepR_inScope))⟩
  | exit id =>
    have hx : exitTo id (.inScope c :: k) = exitTo id k := by simp [exitTo]
    exact ⟨.exit id, a₁, w₁, hq, fun k' hk => .head h0 stepR_scope (harr.1 k' (by rw [hx]; exact hk)),
      fun hr' hk => let ⟨k₁, h1, h2⟩ := harr.2 hr' (by rw [hx]; exact hk); ⟨k₁, h1, .head h0 stepR_scope h2⟩⟩
  | goto l => exact hq.elim
  | ret => exact ⟨_, a₁, w₁, hq, .of_steps (.one h0 stepR_scope) harr⟩
  | panic ch => exact ⟨_, a₁, w₁, hq, .of_steps (.one h0 stepR_scope) harr⟩
  | outgrown => exact ⟨_, a₁, w₁, hq, .of_steps (.one h0 stepR_scope) harr⟩
end
theorem T.relax_skip {ah : Bool} {f : Int → Int} {t : T.T4} (h : ¬ f t.1.2 < T.M) : T.relax ah f t = f := funext fun i => by
  unfold T.relax
  rw [if_neg (fun e => h e.2)]
theorem T.relax_put {ah : Bool} {f : Int → Int} {t : T.T4} (h : f t.1.2 < T.M) : T.relax ah f t = T.put f t.1.1 (min (f t.1.1) (f t.1.2 + T.rch ah t)) := funext fun i => by
  unfold T.relax T.put
  by_cases e : i = t.1.1
  · rw [if_pos ⟨e, h⟩, if_pos e]
  · rw [if_neg (fun q => e q.1), if_neg e]
theorem T.pass_take {ah : Bool} {f : Int → Int} {ts : List T.T4} {k : Nat} (hk : k < ts.length) : T.relax ah (T.pass ah (ts.take k) f) (ts.getD k ((0, 0), 0, 0)) = T.pass ah (ts.take (k + 1)) f := by
  unfold T.pass
  rw [List.take_succ_eq_append_getElem hk, List.foldl_append, List.getD_eq_getElem?_getD, List.getElem?_eq_getElem hk]
  rfl
theorem Tab.at {k : Nat} {α : Type} {enc : α → Nat → Int} {d : α} {w : World} {a : Option Addr} {n c : Nat} {xs : List α} (I : Tab k enc d w (.slice a n c) xs) (h : 0 < xs.length) : ∃ g off, a = some ⟨g, off, none⟩ ∧ g < w.heap.size ∧ ∀ j, j < xs.length → ∀ i, i < k → w.cell? ⟨g, off + j * k + i, none⟩ = some (.int .i64 (enc (xs.getD j d) i)) := by
  obtain ⟨a1, c1, e1, _, hl, hm1⟩ := I.is
  injection e1 with e1 e2 e3
  subst e1 e3
  exact hm1 h
section
variable {N bl bh rl rh : Int} {aP aQ aL aT : Option Addr} {nP cP nQ cQ nL cL nT cT : Nat} {o : Nat → Bool}
set_option maxRecDepth 100000 in
set_option maxHeartbeats 2000000 in
theorem narrow_up {w0 w : World} {ts : List T.T4} {B : Nat} {cs : Array Value} {f : Int → Int} (I : Tis w0 (.slice aT nT cT) ts) (hu : Up w0 w) (hB : w0.heap.size ≤ B) (hts : T.Tin ts) (hl : ts.length ≤ 300) (hO : T.OC cs f) (hb : T.Bn 900000000000 f) (kB : mblk w B = some (.cells cs 85 (0, 0))) :
    Calls Try.prog 96 #[WeV N bl bh rl rh (.slice aP nP cP) (.slice aQ nQ cQ) (.slice aL nL cL) o (.slice aT nT cT), .pointer (some ⟨B, 0, none⟩), AhV] w fun e w' => e = .returned (.tuple #[]) ∧ (∃ cs', mblk w' B = some (.cells cs' 85 (0, 0)) ∧ T.OC cs' (T.pass true ts f)) ∧ w.grownBy w' (some B) := by
  have hn := I.len
  have HI := Lib.hid I
  have HU := Lib.hid hu
  have HT := Lib.hid hts
  have HBN := Lib.hid (fun k (_ : k ≤ ts.length) => (hb.pass (ah := true) (ts := ts.take k) (by omega) (by have : (ts.take k).length ≤ 300 := Nat.le_trans (by rw [List.length_take]; omega) hl; omega) fun t ht => (hts t (List.mem_of_mem_take ht)).2.2).mono (C := 1000000000000) (by have : (ts.take k).length ≤ 300 := Nat.le_trans (by rw [List.length_take]; omega) hl; omega))
  have HO := Lib.hid hO
  clear I hu hts hb hO
  subst hn
  have lB := blk_lt kB
  refine (callsIn_wide (n := 5)).1 ?_
  refine callsIn_of_wp Try.func96 rfl trivial ?_ rfl
  simp only [Try.ntmps96, List.size_toArray, List.length_cons, List.length_nil, Nat.reduceAdd, Nat.reduceSub, Array.replicate_succ, Array.replicate_zero, List.push_toArray, List.append_toArray, List.nil_append, List.cons_append]
  have hmx : Try.prog.follows .mixedOrders = true := by kernel_rfl
  obtain ⟨W0, hW0⟩ : ∃ z, (w.alloc (.cells (WeC N bl bh rl rh (.slice aP nP cP) (.slice aQ nQ cQ) (.slice aL nL cL) o (.slice aT ts.length cT)) 90)).alloc (.cells #[.func (.func 117) #[] #[], .int .i64 1] 108) = z := ⟨_, rfl⟩
  obtain ⟨q0, e0⟩ : ∃ z, w.heap.size = z := ⟨_, rfl⟩
  have kW : mblk W0 q0 = some (.cells (WeC N bl bh rl rh (.slice aP nP cP) (.slice aQ nQ cQ) (.slice aL nL cL) o (.slice aT ts.length cT)) 90 (0, 0)) := by rw [← hW0]; exact blk_keep _ (blk_new _ _ _ e0.symm)
  have kS : mblk W0 (q0 + 1) = some (.cells #[.func (.func 117) #[] #[], .int .i64 1] 108 (0, 0)) := by rw [← hW0]; exact blk_new _ _ _ (by simp; omega)
  have u0 : Up w W0 := by rw [← hW0]; exact ((Up.refl w).alloc _).alloc _
  have kB0 := u0.blk kB
  have lW := blk_lt kW
  have G0 := up_grown u0 (some B)
  have hBq : B < q0 := by omega
  have hwB : w0.heap.size ≤ B := hB
  clear u0 kB lB
  gi_wp2_with fail
  refine wpIn_scope_straight ?_
  gi_wp2_with fail
  rename_i K9 hK9
  refine wpIn_label (hK9 _ _ ?_)
  clear hK9 K9
  gi_wp2_with fail
  try rw [e0]
  try rw [hW0]
  clear hW0 lW
  gi_loopw [11] (fun iv wr => ∃ (k : Nat) (ck : Array Value), k ≤ ts.length ∧ iv = .int .i64 k ∧ mblk wr B = some (.cells ck 85 (0, 0)) ∧ T.OC ck (T.pass true (ts.take k) f) ∧ w.grownBy wr (some B) ∧ mblk wr q0 = some (.cells (WeC N bl bh rl rh (.slice aP nP cP) (.slice aQ nQ cQ) (.slice aL nL cL) o (.slice aT ts.length cT)) 90 (0, 0)) ∧ mblk wr (q0 + 1) = some (.cells #[.func (.func 117) #[] #[], .int .i64 1] 108 (0, 0))) (fun iv _ => ts.length - (intOf iv).toNat)
  case atStart => exact ⟨0, cs, Nat.zero_le _, rfl, kB0, HO.out, G0, kW, kS⟩
  case round =>
    clear kB0 G0 kW kS HO
    obtain ⟨k, ck, hk, rfl, kB, hO, hG, kW, kS⟩ := hrel
    by_cases hlt : k < ts.length
    · have hUr : Up w0 wr := HU.out.grown hG fun r e => by have := Option.some.inj e; omega
      obtain ⟨g, off, rfl, gl, hc⟩ := (HI.out.up hUr).at (by omega)
      have x0 := hc k hlt 0 (by omega)
      have x1 := hc k hlt 1 (by omega)
      have x2 := hc k hlt 2 (by omega)
      have x3 := hc k hlt 3 (by omega)
      obtain ⟨⟨i1, i2⟩, ⟨i3, i4⟩, ⟨i5, i6⟩, i7, i8⟩ := HT.out _ (T.getD_mem (d := ((0, 0), 0, 0)) hlt)
      have tk := Lib.hid (T.pass_take (ah := true) (f := f) hlt)
      have bn := HBN.out k hk
      clear hc
      generalize ts.getD k ((0, 0), 0, 0) = z at *
      obtain ⟨⟨a, c⟩, l, u⟩ := z
      simp only at i1 i2 i3 i4 i5 i6 i7 i8
      obtain ⟨a, rfl⟩ := Int.eq_ofNat_of_zero_le i1
      obtain ⟨c, rfl⟩ := Int.eq_ofNat_of_zero_le i3
      simp only [T.encT, Nat.add_zero] at x0 x1 x2 x3
      generalize T.pass true (ts.take k) f = ok at *
      have v1 := hO.at_ a (by omega)
      have v2 := hO.at_ c (by omega)
      have bn2 := bn c
      have bn1 := bn a
      have j1 : a < 17 := by omega
      have j2 : c < 17 := by omega
      have j3 : (a : Int) < 17 := by omega
      have j4 : (c : Int) < 17 := by omega
      obtain ⟨n1, hn1⟩ : ∃ x, ok a = x := ⟨_, rfl⟩
      obtain ⟨n2, hn2⟩ : ∃ x, ok c = x := ⟨_, rfl⟩
      rw [hn1] at v1 bn1
      rw [hn2] at v2 bn2
      have lB2 := blk_lt kB
      have lS := blk_lt kS
      have lW := blk_lt kW
      have kt := blk_new wr (.cells (TiC a c l u) 145) _ rfl
      have kB1 := blk_keep (.cells (TiC a c l u) 145) kB
      have kS1 := blk_keep (.cells (TiC a c l u) 145) kS
      have kW1 := blk_keep (.cells (TiC a c l u) 145) kW
      have V0 : Up wr (wr.alloc (.cells (TiC a c l u) 145)) := (Up.refl wr).alloc _
      by_cases hM : n2 = 9223372036854775807
      · have hO2 := Lib.hid (show T.OC ck (T.pass true (ts.take (k + 1)) f) by
          rw [← tk.out, T.relax_skip (by show ¬ ok (c : Int) < T.M; unfold T.M; omega)]
          exact hO)
        subst hM
        clear hO tk bn bn1 bn2 hn1 hn2 HT HBN HI HU hUr
        gi_wp2_with fail
        obtain ⟨q, hq⟩ : ∃ x, wr.heap.size = x := ⟨_, rfl⟩
        obtain ⟨W1, hW1⟩ : ∃ x, wr.alloc (.cells (TiC a c l u) 145) = x := ⟨_, rfl⟩
        rw [hq] at kt lB2 lS lW
        rw [hW1] at kt kB1 kS1 kW1 V0
        try rw [hq]
        try rw [hW1]
        clear hW1 kB kS kW hq
        have HB1 := Lib.hid (fun w (u : Up W1 w) => u.blk kB1)
        have HT1 := Lib.hid (fun w (u : Up W1 w) => u.blk kt)
        refine wpIn_nrm ?_
        refine T.regionQ (fun w' => Up W1 w') 7 1 hmx (by kernel_rfl) (by kernel_rfl) ((Up.refl W1).drew) (fun hCl => ?_)
        refine T.qTake (i := 0) (d := (some 15)) (v := ?v1) rfl rfl (by kernel_rfl) (by decide) hCl (by kernel_rfl) (by kernel_rfl) (by kernel_rfl) (by rfl) ?hy1 (fun _ _ _ => trivial) (fun hCl' => ?_)
        case hy1 => (intro w hSw; refine T.qVal ?_ hSw; (have f1 := HB1.out w hSw; have f2 := HT1.out w hSw; have f3 := (cellB f1 c).trans v2); go_simp; try with_reducible rfl)
        simp only [Act.put, List.setIfInBounds_toArray, List.set_cons_zero, List.set_cons_succ]
        replace hCl := hCl'; clear hCl'
        refine T.qTake (i := 1) (d := (some 16)) (v := ?v2) rfl rfl (by kernel_rfl) (by decide) hCl (by kernel_rfl) (by kernel_rfl) (by kernel_rfl) (by rfl) ?hy2 (fun _ _ _ => trivial) (fun hCl' => ?_)
        case hy2 => (intro w hSw; refine T.qVal ?_ hSw; (have f1 := HB1.out w hSw; have f2 := HT1.out w hSw; have f3 := (cellB f1 c).trans v2); go_simp; try with_reducible rfl)
        simp only [Act.put, List.setIfInBounds_toArray, List.set_cons_zero, List.set_cons_succ]
        replace hCl := hCl'; clear hCl'
        refine T.qTake (i := 2) (d := (some 17)) (v := ?v3) rfl rfl (by kernel_rfl) (by decide) hCl (by kernel_rfl) (by kernel_rfl) (by kernel_rfl) (by rfl) ?hy3 (fun _ _ _ => trivial) (fun hCl' => ?_)
        case hy3 => (intro w hSw; refine T.qVal ?_ hSw; (have f1 := HB1.out w hSw; have f2 := HT1.out w hSw; have f3 := (cellB f1 c).trans v2); go_simp; try with_reducible rfl)
        simp only [Act.put, List.setIfInBounds_toArray, List.set_cons_zero, List.set_cons_succ]
        replace hCl := hCl'; clear hCl'
        refine T.qTake (i := 3) (d := (some 18)) (v := ?v4) rfl rfl (by kernel_rfl) (by decide) hCl (by kernel_rfl) (by kernel_rfl) (by kernel_rfl) (by rfl) ?hy4 (fun _ _ _ => trivial) (fun hCl' => ?_)
        case hy4 => (intro w hSw; refine T.qVal ?_ hSw; (have f1 := HB1.out w hSw; have f2 := HT1.out w hSw; have f3 := (cellB f1 c).trans v2); go_simp; try with_reducible rfl)
        simp only [Act.put, List.setIfInBounds_toArray, List.set_cons_zero, List.set_cons_succ]
        replace hCl := hCl'; clear hCl'
        refine T.qTake (i := 4) (d := (some 19)) (v := ?v5) rfl rfl (by kernel_rfl) (by decide) hCl (by kernel_rfl) (by kernel_rfl) (by kernel_rfl) (by rfl) ?hy5 (fun _ _ _ => trivial) (fun hCl' => ?_)
        case hy5 => (intro w hSw; refine T.qVal ?_ hSw; (have f1 := HB1.out w hSw; have f2 := HT1.out w hSw; have f3 := (cellB f1 c).trans v2); go_simp; try with_reducible rfl)
        simp only [Act.put, List.setIfInBounds_toArray, List.set_cons_zero, List.set_cons_succ]
        replace hCl := hCl'; clear hCl'
        refine T.qTake (i := 5) (d := (some 20)) (v := ?v6) rfl rfl (by kernel_rfl) (by decide) hCl (by kernel_rfl) (by kernel_rfl) (by kernel_rfl) (by rfl) ?hy6 (fun _ _ _ => trivial) (fun hCl' => ?_)
        case hy6 => (intro w hSw; refine T.qVal ?_ hSw; (have f1 := HB1.out w hSw; have f2 := HT1.out w hSw; have f3 := (cellB f1 c).trans v2); go_simp; try with_reducible rfl)
        simp only [Act.put, List.setIfInBounds_toArray, List.set_cons_zero, List.set_cons_succ]
        replace hCl := hCl'; clear hCl'
        refine T.qTake (i := 6) (d := (some 21)) (v := ?v7) rfl rfl (by kernel_rfl) (by decide) hCl (by kernel_rfl) (by kernel_rfl) (by kernel_rfl) (by rfl) ?hy7 (fun _ _ _ => trivial) (fun hCl' => ?_)
        case hy7 => (intro w hSw; refine T.qVal ?_ hSw; (have f1 := HB1.out w hSw; have f2 := HT1.out w hSw; have f3 := (cellB f1 c).trans v2); go_simp; try with_reducible rfl)
        simp only [Act.put, List.setIfInBounds_toArray, List.set_cons_zero, List.set_cons_succ]
        replace hCl := hCl'; clear hCl'
        refine T.tail_intro (by kernel_rfl) (fun y1 hy1 => ?_)
        replace kB1 := hy1.blk kB1
        replace kt := hy1.blk kt
        replace kS1 := hy1.blk kS1
        replace kW1 := hy1.blk kW1
        have V1 := V0.trans hy1
        clear HB1 HT1 V0
        refine lastG (i := 7) (by kernel_rfl) rfl (by rfl) (by decide) (fun K hK => ?_)
        go_simp
        refine hK.out _ _ ?_
        clear hK K
        refine doneG (by kernel_rfl) ?_ _
        refine S.nrm_intro ?_
        have HH := Lib.hid (And.intro kB1 (And.intro (grown_trans hG (up_grown V1 _)) (And.intro kW1 kS1)))
        gi_wp2
        go_roundw
        case rel => exact ⟨k + 1, ck, by omega, by go_num, HH.out.1, hO2.out, HH.out.2.1, HH.out.2.2.1, HH.out.2.2.2⟩
        case measure => simp [intOf]; omega
      · have hMb : (n2 == 9223372036854775807) = false := beq_eq_false_iff_ne.2 hM
        have ew : IntKind.i64.wrap (n2 + u) = n2 + u := IntWalk.i64_in _ (by unfold T.M at bn2; omega)
        obtain ⟨sm, hsm⟩ : ∃ x, n2 + u = x := ⟨_, rfl⟩
        replace ew := ew.trans hsm
        have HL := Lib.hid (fun w b k => least1_any (x := n1) (y := sm) w b k)
        obtain ⟨mv, hmv⟩ : ∃ x, min n1 sm = x := ⟨_, rfl⟩
        rw [hmv] at HL
        have hO2 := Lib.hid (show T.OC (ck.setIfInBounds a (.int .i64 mv)) (T.pass true (ts.take (k + 1)) f) by
          rw [← tk.out, T.relax_put (by show ok (c : Int) < T.M; unfold T.M at *; omega)]
          have q := hO.put (m := (a : Int)) i1 i2 mv
          have e : min (ok (a : Int)) (ok (c : Int) + T.rch true (((a : Int), (c : Int)), l, u)) = mv := by
            rw [← hmv, ← hsm, hn1, hn2]
            rfl
          show T.OC _ (T.put ok (a : Int) (min (ok (a : Int)) (ok (c : Int) + T.rch true (((a : Int), (c : Int)), l, u))))
          rw [e]
          exact q)
        have PR := Lib.hid (fun w => upwards1_any l u w)
        have HG := Lib.hid hG
        clear hO tk bn bn1 hn1 hn2 hG HT HBN HI HU hUr hsm hmv i1 i2 i3 i4 i5 i6 i7 i8
        gi_wp2_with fail
        obtain ⟨q, hq⟩ : ∃ x, wr.heap.size = x := ⟨_, rfl⟩
        obtain ⟨W1, hW1⟩ : ∃ x, wr.alloc (.cells (TiC a c l u) 145) = x := ⟨_, rfl⟩
        rw [hq] at kt lB2 lS lW
        rw [hW1] at kt kB1 kS1 kW1 V0
        try rw [hq]
        try rw [hW1]
        clear hW1 kB kS kW hq
        have HB1 := Lib.hid (fun w (u : Up W1 w) => u.blk kB1)
        have HT1 := Lib.hid (fun w (u : Up W1 w) => u.blk kt)
        refine wpIn_nrm ?_
        refine T.regionQ (fun w' => Up W1 w') 7 1 hmx (by kernel_rfl) (by kernel_rfl) ((Up.refl W1).drew) (fun hCl => ?_)
        refine T.qTake (i := 0) (d := (some 15)) (v := ?v8) rfl rfl (by kernel_rfl) (by decide) hCl (by kernel_rfl) (by kernel_rfl) (by kernel_rfl) (by rfl) ?hy8 (fun _ _ _ => trivial) (fun hCl' => ?_)
        case hy8 => (intro w hSw; refine T.qVal ?_ hSw; (have f1 := HB1.out w hSw; have f2 := HT1.out w hSw; have f3 := (cellB f1 c).trans v2); go_simp; try with_reducible rfl)
        simp only [Act.put, List.setIfInBounds_toArray, List.set_cons_zero, List.set_cons_succ]
        replace hCl := hCl'; clear hCl'
        refine T.qTake (i := 1) (d := (some 16)) (v := ?v9) rfl rfl (by kernel_rfl) (by decide) hCl (by kernel_rfl) (by kernel_rfl) (by kernel_rfl) (by rfl) ?hy9 (fun _ _ _ => trivial) (fun hCl' => ?_)
        case hy9 => (intro w hSw; refine T.qVal ?_ hSw; (have f1 := HB1.out w hSw; have f2 := HT1.out w hSw; have f3 := (cellB f1 c).trans v2); go_simp; try with_reducible rfl)
        simp only [Act.put, List.setIfInBounds_toArray, List.set_cons_zero, List.set_cons_succ]
        replace hCl := hCl'; clear hCl'
        refine T.qTake (i := 2) (d := (some 17)) (v := ?v10) rfl rfl (by kernel_rfl) (by decide) hCl (by kernel_rfl) (by kernel_rfl) (by kernel_rfl) (by rfl) ?hy10 (fun _ _ _ => trivial) (fun hCl' => ?_)
        case hy10 => (intro w hSw; refine T.qVal ?_ hSw; (have f1 := HB1.out w hSw; have f2 := HT1.out w hSw; have f3 := (cellB f1 c).trans v2); go_simp; try with_reducible rfl)
        simp only [Act.put, List.setIfInBounds_toArray, List.set_cons_zero, List.set_cons_succ]
        replace hCl := hCl'; clear hCl'
        refine T.qTake (i := 3) (d := (some 18)) (v := ?v11) rfl rfl (by kernel_rfl) (by decide) hCl (by kernel_rfl) (by kernel_rfl) (by kernel_rfl) (by rfl) ?hy11 (fun _ _ _ => trivial) (fun hCl' => ?_)
        case hy11 => (intro w hSw; refine T.qVal ?_ hSw; (have f1 := HB1.out w hSw; have f2 := HT1.out w hSw; have f3 := (cellB f1 c).trans v2); go_simp; try with_reducible rfl)
        simp only [Act.put, List.setIfInBounds_toArray, List.set_cons_zero, List.set_cons_succ]
        replace hCl := hCl'; clear hCl'
        refine T.qTake (i := 4) (d := (some 19)) (v := ?v12) rfl rfl (by kernel_rfl) (by decide) hCl (by kernel_rfl) (by kernel_rfl) (by kernel_rfl) (by rfl) ?hy12 (fun _ _ _ => trivial) (fun hCl' => ?_)
        case hy12 => (intro w hSw; refine T.qVal ?_ hSw; (have f1 := HB1.out w hSw; have f2 := HT1.out w hSw; have f3 := (cellB f1 c).trans v2); go_simp; try with_reducible rfl)
        simp only [Act.put, List.setIfInBounds_toArray, List.set_cons_zero, List.set_cons_succ]
        replace hCl := hCl'; clear hCl'
        refine T.qTake (i := 5) (d := (some 20)) (v := ?v13) rfl rfl (by kernel_rfl) (by decide) hCl (by kernel_rfl) (by kernel_rfl) (by kernel_rfl) (by rfl) ?hy13 (fun _ _ _ => trivial) (fun hCl' => ?_)
        case hy13 => (intro w hSw; refine T.qVal ?_ hSw; (have f1 := HB1.out w hSw; have f2 := HT1.out w hSw; have f3 := (cellB f1 c).trans v2); go_simp; try with_reducible rfl)
        simp only [Act.put, List.setIfInBounds_toArray, List.set_cons_zero, List.set_cons_succ]
        replace hCl := hCl'; clear hCl'
        refine T.qTake (i := 6) (d := (some 21)) (v := ?v14) rfl rfl (by kernel_rfl) (by decide) hCl (by kernel_rfl) (by kernel_rfl) (by kernel_rfl) (by rfl) ?hy14 (fun _ _ _ => trivial) (fun hCl' => ?_)
        case hy14 => (intro w hSw; refine T.qVal ?_ hSw; (have f1 := HB1.out w hSw; have f2 := HT1.out w hSw; have f3 := (cellB f1 c).trans v2); go_simp; try with_reducible rfl)
        simp only [Act.put, List.setIfInBounds_toArray, List.set_cons_zero, List.set_cons_succ]
        replace hCl := hCl'; clear hCl'
        refine T.tail_intro (by kernel_rfl) (fun y1 hy1 => ?_)
        replace kB1 := hy1.blk kB1
        replace kt := hy1.blk kt
        replace kS1 := hy1.blk kS1
        replace kW1 := hy1.blk kW1
        have V1 := V0.trans hy1
        clear HB1 HT1 V0
        refine lastG (i := 7) (by kernel_rfl) rfl (by rfl) (by decide) (fun K hK => ?_)
        go_simp
        refine hK.out _ _ ?_
        clear hK K
        refine doneG (by kernel_rfl) ?_ _
        refine S.nrm_intro ?_
        gi_wp2_with fail
        refine wpIn_nrm ?_
        refine regionG (fun w' => Up y1 w' ∧ mblk w' B = some (.cells ck 85 (0, 0)) ∧ mblk w' q = some (.cells (TiC a c l u) 145 (0, 0)) ∧ mblk w' (q0 + 1) = some (.cells #[.func (.func 117) #[] #[], .int .i64 1] 108 (0, 0))) 28 (by kernel_rfl) ⟨(Up.refl y1).drew, by rw [blk_drew]; exact kB1, by rw [blk_drew]; exact kt, by rw [blk_drew]; exact kS1⟩ (fun hHeld hCl => ?_)
        clear kt kB1 kS1
        refine takeG (i := 0) (d := (some 23)) (v := ?v15) rfl rfl (by kernel_rfl) (by kernel_rfl) (by decide) hCl (by kernel_rfl) (by kernel_rfl) (by kernel_rfl) (fun _ _ _ h => h) (by rfl) ?hy15 (fun _ _ _ => trivial) (by assumption) (fun hCl' => ?_)
        case hy15 => ((intro w hSw; (try dsimp only at hSw); (try go_split_ands); go_simp); try with_reducible rfl)
        simp only [Act.put, List.setIfInBounds_toArray, List.set_cons_zero, List.set_cons_succ]
        replace hCl := hCl'; clear hCl'
        refine takeG (i := 1) (d := (some 24)) (v := ?v16) rfl rfl (by kernel_rfl) (by kernel_rfl) (by decide) hCl (by kernel_rfl) (by kernel_rfl) (by kernel_rfl) (fun _ _ _ h => h) (by rfl) ?hy16 (fun _ _ _ => trivial) (by assumption) (fun hCl' => ?_)
        case hy16 => ((intro w hSw; (try dsimp only at hSw); (try go_split_ands); go_simp); try with_reducible rfl)
        simp only [Act.put, List.setIfInBounds_toArray, List.set_cons_zero, List.set_cons_succ]
        replace hCl := hCl'; clear hCl'
        refine takeG (i := 2) (d := (some 25)) (v := ?v17) rfl rfl (by kernel_rfl) (by kernel_rfl) (by decide) hCl (by kernel_rfl) (by kernel_rfl) (by kernel_rfl) (fun _ _ _ h => h) (by rfl) ?hy17 (fun _ _ _ => trivial) (by assumption) (fun hCl' => ?_)
        case hy17 => ((intro w hSw; (try dsimp only at hSw); (try go_split_ands); go_simp); try with_reducible rfl)
        simp only [Act.put, List.setIfInBounds_toArray, List.set_cons_zero, List.set_cons_succ]
        replace hCl := hCl'; clear hCl'
        refine takeG (i := 3) (d := (some 26)) (v := ?v18) rfl rfl (by kernel_rfl) (by kernel_rfl) (by decide) hCl (by kernel_rfl) (by kernel_rfl) (by kernel_rfl) (fun _ _ _ h => h) (by rfl) ?hy18 (fun _ _ _ => trivial) (by assumption) (fun hCl' => ?_)
        case hy18 => ((intro w hSw; (try dsimp only at hSw); (try go_split_ands); go_simp); try with_reducible rfl)
        simp only [Act.put, List.setIfInBounds_toArray, List.set_cons_zero, List.set_cons_succ]
        replace hCl := hCl'; clear hCl'
        refine takeG (i := 4) (d := (some 27)) (v := ?v19) rfl rfl (by kernel_rfl) (by kernel_rfl) (by decide) hCl (by kernel_rfl) (by kernel_rfl) (by kernel_rfl) (fun _ _ _ h => h) (by rfl) ?hy19 (fun _ _ _ => trivial) (by assumption) (fun hCl' => ?_)
        case hy19 => ((intro w hSw; (try dsimp only at hSw); (try go_split_ands); go_simp); try with_reducible rfl)
        simp only [Act.put, List.setIfInBounds_toArray, List.set_cons_zero, List.set_cons_succ]
        replace hCl := hCl'; clear hCl'
        refine takeG (i := 5) (d := (some 28)) (v := ?v20) rfl rfl (by kernel_rfl) (by kernel_rfl) (by decide) hCl (by kernel_rfl) (by kernel_rfl) (by kernel_rfl) (fun _ _ _ h => h) (by rfl) ?hy20 (fun _ _ _ => trivial) (by assumption) (fun hCl' => ?_)
        case hy20 => ((intro w hSw; (try dsimp only at hSw); (try go_split_ands); go_simp); try with_reducible rfl)
        simp only [Act.put, List.setIfInBounds_toArray, List.set_cons_zero, List.set_cons_succ]
        replace hCl := hCl'; clear hCl'
        refine takeG (i := 6) (d := (some 29)) (v := ?v21) rfl rfl (by kernel_rfl) (by kernel_rfl) (by decide) hCl (by kernel_rfl) (by kernel_rfl) (by kernel_rfl) (fun _ _ _ h => h) (by rfl) ?hy21 (fun _ _ _ => trivial) (by assumption) (fun hCl' => ?_)
        case hy21 => ((intro w hSw; (try dsimp only at hSw); (try go_split_ands); go_simp); try with_reducible rfl)
        simp only [Act.put, List.setIfInBounds_toArray, List.set_cons_zero, List.set_cons_succ]
        replace hCl := hCl'; clear hCl'
        refine takeG (i := 7) (d := (some 30)) (v := ?v22) rfl rfl (by kernel_rfl) (by kernel_rfl) (by decide) hCl (by kernel_rfl) (by kernel_rfl) (by kernel_rfl) (fun _ _ _ h => h) (by rfl) ?hy22 (fun _ _ _ => trivial) (by assumption) (fun hCl' => ?_)
        case hy22 => ((intro w hSw; (try dsimp only at hSw); (try go_split_ands); go_simp); try with_reducible rfl)
        simp only [Act.put, List.setIfInBounds_toArray, List.set_cons_zero, List.set_cons_succ]
        replace hCl := hCl'; clear hCl'
        refine takeG (i := 8) (d := (some 31)) (v := ?v23) rfl rfl (by kernel_rfl) (by kernel_rfl) (by decide) hCl (by kernel_rfl) (by kernel_rfl) (by kernel_rfl) (fun _ _ _ h => h) (by rfl) ?hy23 (fun _ _ _ => trivial) (by assumption) (fun hCl' => ?_)
        case hy23 => ((intro w hSw; (try dsimp only at hSw); (try go_split_ands); go_simp); try with_reducible rfl)
        simp only [Act.put, List.setIfInBounds_toArray, List.set_cons_zero, List.set_cons_succ]
        replace hCl := hCl'; clear hCl'
        refine takeG (i := 9) (d := (some 32)) (v := ?v24) rfl rfl (by kernel_rfl) (by kernel_rfl) (by decide) hCl (by kernel_rfl) (by kernel_rfl) (by kernel_rfl) (fun _ _ _ h => h) (by rfl) ?hy24 (fun _ _ _ => trivial) (by assumption) (fun hCl' => ?_)
        case hy24 => ((intro w hSw; (try dsimp only at hSw); (try go_split_ands); go_simp); try with_reducible rfl)
        simp only [Act.put, List.setIfInBounds_toArray, List.set_cons_zero, List.set_cons_succ]
        replace hCl := hCl'; clear hCl'
        refine takeG (i := 10) (d := (some 33)) (v := ?v25) rfl rfl (by kernel_rfl) (by kernel_rfl) (by decide) hCl (by kernel_rfl) (by kernel_rfl) (by kernel_rfl) (fun _ _ _ h => h) (by rfl) ?hy25 (fun _ _ _ => trivial) (by assumption) (fun hCl' => ?_)
        case hy25 => ((intro w hSw; (try dsimp only at hSw); (try go_split_ands); go_simp); try with_reducible rfl)
        simp only [Act.put, List.setIfInBounds_toArray, List.set_cons_zero, List.set_cons_succ]
        replace hCl := hCl'; clear hCl'
        refine takeG (i := 11) (d := (some 34)) (v := ?v26) rfl rfl (by kernel_rfl) (by kernel_rfl) (by decide) hCl (by kernel_rfl) (by kernel_rfl) (by kernel_rfl) (fun _ _ _ h => h) (by rfl) ?hy26 (fun _ _ _ => trivial) (by assumption) (fun hCl' => ?_)
        case hy26 => ((intro w hSw; (try dsimp only at hSw); (try go_split_ands); go_simp); try with_reducible rfl)
        simp only [Act.put, List.setIfInBounds_toArray, List.set_cons_zero, List.set_cons_succ]
        replace hCl := hCl'; clear hCl'
        refine takeG (i := 12) (d := (some 35)) (v := ?v27) rfl rfl (by kernel_rfl) (by kernel_rfl) (by decide) hCl (by kernel_rfl) (by kernel_rfl) (by kernel_rfl) (fun _ _ _ h => h) (by rfl) ?hy27 (fun _ _ _ => trivial) (by assumption) (fun hCl' => ?_)
        case hy27 => ((intro w hSw; (try dsimp only at hSw); (try go_split_ands); go_simp); try with_reducible rfl)
        simp only [Act.put, List.setIfInBounds_toArray, List.set_cons_zero, List.set_cons_succ]
        replace hCl := hCl'; clear hCl'
        refine takeG (i := 13) (d := (some 36)) (v := ?v28) rfl rfl (by kernel_rfl) (by kernel_rfl) (by decide) hCl (by kernel_rfl) (by kernel_rfl) (by kernel_rfl) (fun _ _ _ h => h) (by rfl) ?hy28 (fun _ _ _ => trivial) (by assumption) (fun hCl' => ?_)
        case hy28 => ((intro w hSw; (try dsimp only at hSw); (try go_split_ands); go_simp); try with_reducible rfl)
        simp only [Act.put, List.setIfInBounds_toArray, List.set_cons_zero, List.set_cons_succ]
        replace hCl := hCl'; clear hCl'
        refine takeG (i := 14) (d := (some 37)) (v := ?v29) rfl rfl (by kernel_rfl) (by kernel_rfl) (by decide) hCl (by kernel_rfl) (by kernel_rfl) (by kernel_rfl) (fun _ _ _ h => h) (by rfl) ?hy29 (fun _ _ _ => trivial) (by assumption) (fun hCl' => ?_)
        case hy29 => ((intro w hSw; (try dsimp only at hSw); (try go_split_ands); go_simp); try with_reducible rfl)
        simp only [Act.put, List.setIfInBounds_toArray, List.set_cons_zero, List.set_cons_succ]
        replace hCl := hCl'; clear hCl'
        refine takeG (i := 15) (d := (some 38)) (v := ?v30) rfl rfl (by kernel_rfl) (by kernel_rfl) (by decide) hCl (by kernel_rfl) (by kernel_rfl) (by kernel_rfl) (fun _ _ _ h => h) (by rfl) ?hy30 (fun _ _ _ => trivial) (by assumption) (fun hCl' => ?_)
        case hy30 => ((intro w hSw; (try dsimp only at hSw); (try go_split_ands); go_simp); try with_reducible rfl)
        simp only [Act.put, List.setIfInBounds_toArray, List.set_cons_zero, List.set_cons_succ]
        replace hCl := hCl'; clear hCl'
        refine takeG (i := 16) (d := (some 39)) (v := ?v31) rfl rfl (by kernel_rfl) (by kernel_rfl) (by decide) hCl (by kernel_rfl) (by kernel_rfl) (by kernel_rfl) (fun _ _ _ h => h) (by rfl) ?hy31 (fun _ _ _ => trivial) (by assumption) (fun hCl' => ?_)
        case hy31 => ((intro w hSw; (try dsimp only at hSw); (try go_split_ands); go_simp); try with_reducible rfl)
        simp only [Act.put, List.setIfInBounds_toArray, List.set_cons_zero, List.set_cons_succ]
        replace hCl := hCl'; clear hCl'
        refine takeG (i := 17) (d := (some 40)) (v := ?v32) rfl rfl (by kernel_rfl) (by kernel_rfl) (by decide) hCl (by kernel_rfl) (by kernel_rfl) (by kernel_rfl) (fun _ _ _ h => h) (by rfl) ?hy32 (fun _ _ _ => trivial) (by assumption) (fun hCl' => ?_)
        case hy32 => ((intro w hSw; (try dsimp only at hSw); (try go_split_ands); go_simp); try with_reducible rfl)
        simp only [Act.put, List.setIfInBounds_toArray, List.set_cons_zero, List.set_cons_succ]
        replace hCl := hCl'; clear hCl'
        refine takeG (i := 18) (d := (some 41)) (v := ?v33) rfl rfl (by kernel_rfl) (by kernel_rfl) (by decide) hCl (by kernel_rfl) (by kernel_rfl) (by kernel_rfl) (fun _ _ _ h => h) (by rfl) ?hy33 (fun _ _ _ => trivial) (by assumption) (fun hCl' => ?_)
        case hy33 => ((intro w hSw; (try dsimp only at hSw); (try go_split_ands); go_simp); try with_reducible rfl)
        simp only [Act.put, List.setIfInBounds_toArray, List.set_cons_zero, List.set_cons_succ]
        replace hCl := hCl'; clear hCl'
        refine takeG (i := 19) (d := (some 42)) (v := ?v34) rfl rfl (by kernel_rfl) (by kernel_rfl) (by decide) hCl (by kernel_rfl) (by kernel_rfl) (by kernel_rfl) (fun _ _ _ h => h) (by rfl) ?hy34 (fun _ _ _ => trivial) (by assumption) (fun hCl' => ?_)
        case hy34 => ((intro w hSw; (try dsimp only at hSw); (try go_split_ands); go_simp); try with_reducible rfl)
        simp only [Act.put, List.setIfInBounds_toArray, List.set_cons_zero, List.set_cons_succ]
        replace hCl := hCl'; clear hCl'
        refine takeG (i := 20) (d := (some 43)) (v := ?v35) rfl rfl (by kernel_rfl) (by kernel_rfl) (by decide) hCl (by kernel_rfl) (by kernel_rfl) (by kernel_rfl) (fun _ _ _ h => h) (by rfl) ?hy35 (fun _ _ _ => trivial) (by assumption) (fun hCl' => ?_)
        case hy35 => ((intro w hSw; (try dsimp only at hSw); (try go_split_ands); go_simp); try with_reducible rfl)
        simp only [Act.put, List.setIfInBounds_toArray, List.set_cons_zero, List.set_cons_succ]
        replace hCl := hCl'; clear hCl'
        refine takeG (i := 21) (d := (some 44)) (v := ?v36) rfl rfl (by kernel_rfl) (by kernel_rfl) (by decide) hCl (by kernel_rfl) (by kernel_rfl) (by kernel_rfl) (fun _ _ _ h => h) (by rfl) ?hy36 (fun _ _ _ => trivial) (by assumption) (fun hCl' => ?_)
        case hy36 => ((intro w hSw; (try dsimp only at hSw); (try go_split_ands); go_simp); try with_reducible rfl)
        simp only [Act.put, List.setIfInBounds_toArray, List.set_cons_zero, List.set_cons_succ]
        replace hCl := hCl'; clear hCl'
        refine takeG (i := 26) (d := (some 49)) (v := ?v37) rfl rfl (by kernel_rfl) (by kernel_rfl) (by decide) hCl (by kernel_rfl) (by kernel_rfl) (by kernel_rfl) (fun _ _ _ h => h) (by rfl) ?hy37 (fun _ _ _ => trivial) (by assumption) (fun hCl' => ?_)
        case hy37 => ((intro w hSw; (try dsimp only at hSw); (try go_split_ands); go_simp); try with_reducible rfl)
        simp only [Act.put, List.setIfInBounds_toArray, List.set_cons_zero, List.set_cons_succ]
        replace hCl := hCl'; clear hCl'
        refine nextG (i := 22) (by kernel_rfl) rfl (by rfl) hCl (fun K hK => ?_)
        go_simp
        refine ⟨trivial, (callsIn_wide.2 (PR.out _)).mono ?_⟩
        rintro e y2 ⟨rfl, u1⟩
        refine hK.out _ _ ⟨hHeld.1.trans u1, u1.blk hHeld.2.1, u1.blk hHeld.2.2.1, u1.blk hHeld.2.2.2⟩ (fun hHeld hCl => ?_)
        clear hK K u1 PR
        try simp only [Act.put, List.setIfInBounds_toArray, List.set_cons_zero, List.set_cons_succ]
        refine takeG (i := 23) (d := (some 46)) (v := ?v39) rfl rfl (by kernel_rfl) (by kernel_rfl) (by decide) hCl (by kernel_rfl) (by kernel_rfl) (by kernel_rfl) (fun _ _ _ h => h) (by rfl) ?hy39 (fun _ _ _ => trivial) (by assumption) (fun hCl' => ?_)
        case hy39 => ((intro w hSw; (try dsimp only at hSw); (try go_split_ands); go_simp); try with_reducible rfl)
        simp only [Act.put, List.setIfInBounds_toArray, List.set_cons_zero, List.set_cons_succ]
        replace hCl := hCl'; clear hCl'
        refine nextG (i := 24) (by kernel_rfl) rfl (by rfl) hCl (fun K hK => ?_)
        go_simp
        obtain ⟨y3, hY⟩ : ∃ Y, y2.alloc (.cells #[.int .i64 sm] 3) = Y := ⟨_, rfl⟩
        obtain ⟨b4, hb4⟩ : ∃ b, y2.heap.size = b := ⟨_, rfl⟩
        have z4 : mblk y3 b4 = some (.cells #[.int .i64 sm] 3 (0, 0)) := by rw [← hY]; exact blk_new _ _ _ hb4.symm
        have V : Up y2 y3 := by rw [← hY]; exact (Up.refl y2).alloc (.cells #[.int .i64 sm] 3)
        rw [hb4, hY]
        refine hK.out _ _ ⟨hHeld.1.trans V, V.blk hHeld.2.1, V.blk hHeld.2.2.1, V.blk hHeld.2.2.2⟩ (fun hHeld hCl => ?_)
        clear hK K hY V hb4
        try simp only [Act.put, List.setIfInBounds_toArray, List.set_cons_zero, List.set_cons_succ]
        refine nextG (i := 25) (by kernel_rfl) rfl (by rfl) hCl (fun K hK => ?_)
        go_simp
        refine ⟨trivial, (callsIn_wide.2 (HL.out _ _ z4)).mono ?_⟩
        rintro e y4 ⟨rfl, rfl⟩
        refine hK.out _ _ hHeld (fun hHeld hCl => ?_)
        clear hK K z4 HL
        try simp only [Act.put, List.setIfInBounds_toArray, List.set_cons_zero, List.set_cons_succ]
        refine takeG (i := 27) (d := (some 50)) (v := ?v42) rfl rfl (by kernel_rfl) (by kernel_rfl) (by decide) hCl (by kernel_rfl) (by kernel_rfl) (by kernel_rfl) (fun _ _ _ h => h) (by rfl) ?hy42 (fun _ _ _ => trivial) (by assumption) (fun hCl' => ?_)
        case hy42 => ((intro w hSw; (try dsimp only at hSw); (try go_split_ands); go_simp); try with_reducible rfl)
        simp only [Act.put, List.setIfInBounds_toArray, List.set_cons_zero, List.set_cons_succ]
        replace hCl := hCl'; clear hCl'
        have kB3 := hHeld.2.1
        have fB := frozB kB3
        have cB := (cellB kB3 a).trans v1
        have lB3 := blk_lt kB3
        clear hCl
        refine lastG (i := 28) (by kernel_rfl) rfl (by rfl) (by decide) (fun K hK => ?_)
        go_simp
        obtain ⟨y5, hY⟩ : ∃ Y, y3.setCell ⟨B, a, none⟩ (.int .i64 mv) = Y := ⟨_, rfl⟩
        have gS : y3.grownBy y5 (some B) := by rw [← hY]; exact grown_set y3 B a _
        have kB4 : mblk y5 B = some (.cells (ck.setIfInBounds a (.int .i64 mv)) 85 (0, 0)) := by rw [← hY]; exact blk_put kB3 a _
        have kS4 := grown_blk gS hHeld.2.2.2 (fun e => by have := Option.some.inj e; omega)
        have kW4 := grown_blk gS (hHeld.1.blk kW1) (fun e => by have := Option.some.inj e; omega)
        have hG4 := grown_trans (grown_trans HG.out (up_grown (V1.trans hHeld.1) _)) gS
        have HX := Lib.hid (And.intro kB4 (And.intro hG4 (And.intro kW4 kS4)))
        rw [hY]
        refine hK.out _ _ ?_
        clear hK K hY kB3 fB cB lB3 gS kB4 kS4 kW4 hG4 hHeld kW1 V1
        refine doneG (by kernel_rfl) ?_ _
        refine S.nrm_intro ?_
        gi_wp2
        go_roundw
        case rel => exact ⟨k + 1, _, by omega, by go_num, HX.out.1, hO2.out, HX.out.2.1, HX.out.2.2.1, HX.out.2.2.2⟩
        case measure => simp [intOf]; omega
    · obtain rfl : k = ts.length := by omega
      rw [List.take_length] at hO
      gi_wp2
      simp only [Exit.noGoto]
      go_end0
      exact ⟨rfl, ⟨_, kB, hO⟩, hG⟩
set_option maxRecDepth 100000 in
set_option maxHeartbeats 2000000 in
theorem narrow_dn {w0 w : World} {ts : List T.T4} {B : Nat} {cs : Array Value} {f : Int → Int} (I : Tis w0 (.slice aT nT cT) ts) (hu : Up w0 w) (hB : w0.heap.size ≤ B) (hts : T.Tin ts) (hl : ts.length ≤ 300) (hO : T.OC cs f) (hb : T.Bn 900000000000 f) (kB : mblk w B = some (.cells cs 85 (0, 0))) :
    Calls Try.prog 96 #[WeV N bl bh rl rh (.slice aP nP cP) (.slice aQ nQ cQ) (.slice aL nL cL) o (.slice aT nT cT), .pointer (some ⟨B, 0, none⟩), BeV] w fun e w' => e = .returned (.tuple #[]) ∧ (∃ cs', mblk w' B = some (.cells cs' 85 (0, 0)) ∧ T.OC cs' (T.pass false ts f)) ∧ w.grownBy w' (some B) := by
  have hn := I.len
  have HI := Lib.hid I
  have HU := Lib.hid hu
  have HT := Lib.hid hts
  have HBN := Lib.hid (fun k (_ : k ≤ ts.length) => (hb.pass (ah := false) (ts := ts.take k) (by omega) (by have : (ts.take k).length ≤ 300 := Nat.le_trans (by rw [List.length_take]; omega) hl; omega) fun t ht => (hts t (List.mem_of_mem_take ht)).2.2).mono (C := 1000000000000) (by have : (ts.take k).length ≤ 300 := Nat.le_trans (by rw [List.length_take]; omega) hl; omega))
  have HO := Lib.hid hO
  clear I hu hts hb hO
  subst hn
  have lB := blk_lt kB
  refine (callsIn_wide (n := 5)).1 ?_
  refine callsIn_of_wp Try.func96 rfl trivial ?_ rfl
  simp only [Try.ntmps96, List.size_toArray, List.length_cons, List.length_nil, Nat.reduceAdd, Nat.reduceSub, Array.replicate_succ, Array.replicate_zero, List.push_toArray, List.append_toArray, List.nil_append, List.cons_append]
  have hmx : Try.prog.follows .mixedOrders = true := by kernel_rfl
  obtain ⟨W0, hW0⟩ : ∃ z, (w.alloc (.cells (WeC N bl bh rl rh (.slice aP nP cP) (.slice aQ nQ cQ) (.slice aL nL cL) o (.slice aT ts.length cT)) 90)).alloc (.cells #[.func (.func 118) #[] #[], .int .i64 (-1)] 108) = z := ⟨_, rfl⟩
  obtain ⟨q0, e0⟩ : ∃ z, w.heap.size = z := ⟨_, rfl⟩
  have kW : mblk W0 q0 = some (.cells (WeC N bl bh rl rh (.slice aP nP cP) (.slice aQ nQ cQ) (.slice aL nL cL) o (.slice aT ts.length cT)) 90 (0, 0)) := by rw [← hW0]; exact blk_keep _ (blk_new _ _ _ e0.symm)
  have kS : mblk W0 (q0 + 1) = some (.cells #[.func (.func 118) #[] #[], .int .i64 (-1)] 108 (0, 0)) := by rw [← hW0]; exact blk_new _ _ _ (by simp; omega)
  have u0 : Up w W0 := by rw [← hW0]; exact ((Up.refl w).alloc _).alloc _
  have kB0 := u0.blk kB
  have lW := blk_lt kW
  have G0 := up_grown u0 (some B)
  have hBq : B < q0 := by omega
  have hwB : w0.heap.size ≤ B := hB
  clear u0 kB lB
  gi_wp2_with fail
  refine wpIn_scope_straight ?_
  gi_wp2_with fail
  rename_i K9 hK9
  refine wpIn_label (hK9 _ _ ?_)
  clear hK9 K9
  gi_wp2_with fail
  try rw [e0]
  try rw [hW0]
  clear hW0 lW
  gi_loopw [11] (fun iv wr => ∃ (k : Nat) (ck : Array Value), k ≤ ts.length ∧ iv = .int .i64 k ∧ mblk wr B = some (.cells ck 85 (0, 0)) ∧ T.OC ck (T.pass false (ts.take k) f) ∧ w.grownBy wr (some B) ∧ mblk wr q0 = some (.cells (WeC N bl bh rl rh (.slice aP nP cP) (.slice aQ nQ cQ) (.slice aL nL cL) o (.slice aT ts.length cT)) 90 (0, 0)) ∧ mblk wr (q0 + 1) = some (.cells #[.func (.func 118) #[] #[], .int .i64 (-1)] 108 (0, 0))) (fun iv _ => ts.length - (intOf iv).toNat)
  case atStart => exact ⟨0, cs, Nat.zero_le _, rfl, kB0, HO.out, G0, kW, kS⟩
  case round =>
    clear kB0 G0 kW kS HO
    obtain ⟨k, ck, hk, rfl, kB, hO, hG, kW, kS⟩ := hrel
    by_cases hlt : k < ts.length
    · have hUr : Up w0 wr := HU.out.grown hG fun r e => by have := Option.some.inj e; omega
      obtain ⟨g, off, rfl, gl, hc⟩ := (HI.out.up hUr).at (by omega)
      have x0 := hc k hlt 0 (by omega)
      have x1 := hc k hlt 1 (by omega)
      have x2 := hc k hlt 2 (by omega)
      have x3 := hc k hlt 3 (by omega)
      obtain ⟨⟨i1, i2⟩, ⟨i3, i4⟩, ⟨i5, i6⟩, i7, i8⟩ := HT.out _ (T.getD_mem (d := ((0, 0), 0, 0)) hlt)
      have tk := Lib.hid (T.pass_take (ah := false) (f := f) hlt)
      have bn := HBN.out k hk
      clear hc
      generalize ts.getD k ((0, 0), 0, 0) = z at *
      obtain ⟨⟨a, c⟩, l, u⟩ := z
      simp only at i1 i2 i3 i4 i5 i6 i7 i8
      obtain ⟨a, rfl⟩ := Int.eq_ofNat_of_zero_le i1
      obtain ⟨c, rfl⟩ := Int.eq_ofNat_of_zero_le i3
      simp only [T.encT, Nat.add_zero] at x0 x1 x2 x3
      generalize T.pass false (ts.take k) f = ok at *
      have v1 := hO.at_ a (by omega)
      have v2 := hO.at_ c (by omega)
      have bn2 := bn c
      have bn1 := bn a
      have j1 : a < 17 := by omega
      have j2 : c < 17 := by omega
      have j3 : (a : Int) < 17 := by omega
      have j4 : (c : Int) < 17 := by omega
      obtain ⟨n1, hn1⟩ : ∃ x, ok a = x := ⟨_, rfl⟩
      obtain ⟨n2, hn2⟩ : ∃ x, ok c = x := ⟨_, rfl⟩
      rw [hn1] at v1 bn1
      rw [hn2] at v2 bn2
      have lB2 := blk_lt kB
      have lS := blk_lt kS
      have lW := blk_lt kW
      have kt := blk_new wr (.cells (TiC a c l u) 145) _ rfl
      have kB1 := blk_keep (.cells (TiC a c l u) 145) kB
      have kS1 := blk_keep (.cells (TiC a c l u) 145) kS
      have kW1 := blk_keep (.cells (TiC a c l u) 145) kW
      have V0 : Up wr (wr.alloc (.cells (TiC a c l u) 145)) := (Up.refl wr).alloc _
      by_cases hM : n2 = 9223372036854775807
      · have hO2 := Lib.hid (show T.OC ck (T.pass false (ts.take (k + 1)) f) by
          rw [← tk.out, T.relax_skip (by show ¬ ok (c : Int) < T.M; unfold T.M; omega)]
          exact hO)
        subst hM
        clear hO tk bn bn1 bn2 hn1 hn2 HT HBN HI HU hUr
        gi_wp2_with fail
        obtain ⟨q, hq⟩ : ∃ x, wr.heap.size = x := ⟨_, rfl⟩
        obtain ⟨W1, hW1⟩ : ∃ x, wr.alloc (.cells (TiC a c l u) 145) = x := ⟨_, rfl⟩
        rw [hq] at kt lB2 lS lW
        rw [hW1] at kt kB1 kS1 kW1 V0
        try rw [hq]
        try rw [hW1]
        clear hW1 kB kS kW hq
        have HB1 := Lib.hid (fun w (u : Up W1 w) => u.blk kB1)
        have HT1 := Lib.hid (fun w (u : Up W1 w) => u.blk kt)
        refine wpIn_nrm ?_
        refine T.regionQ (fun w' => Up W1 w') 7 1 hmx (by kernel_rfl) (by kernel_rfl) ((Up.refl W1).drew) (fun hCl => ?_)
        refine T.qTake (i := 0) (d := (some 15)) (v := ?v44) rfl rfl (by kernel_rfl) (by decide) hCl (by kernel_rfl) (by kernel_rfl) (by kernel_rfl) (by rfl) ?hy44 (fun _ _ _ => trivial) (fun hCl' => ?_)
        case hy44 => (intro w hSw; refine T.qVal ?_ hSw; (have f1 := HB1.out w hSw; have f2 := HT1.out w hSw; have f3 := (cellB f1 c).trans v2); go_simp; try with_reducible rfl)
        simp only [Act.put, List.setIfInBounds_toArray, List.set_cons_zero, List.set_cons_succ]
        replace hCl := hCl'; clear hCl'
        refine T.qTake (i := 1) (d := (some 16)) (v := ?v45) rfl rfl (by kernel_rfl) (by decide) hCl (by kernel_rfl) (by kernel_rfl) (by kernel_rfl) (by rfl) ?hy45 (fun _ _ _ => trivial) (fun hCl' => ?_)
        case hy45 => (intro w hSw; refine T.qVal ?_ hSw; (have f1 := HB1.out w hSw; have f2 := HT1.out w hSw; have f3 := (cellB f1 c).trans v2); go_simp; try with_reducible rfl)
        simp only [Act.put, List.setIfInBounds_toArray, List.set_cons_zero, List.set_cons_succ]
        replace hCl := hCl'; clear hCl'
        refine T.qTake (i := 2) (d := (some 17)) (v := ?v46) rfl rfl (by kernel_rfl) (by decide) hCl (by kernel_rfl) (by kernel_rfl) (by kernel_rfl) (by rfl) ?hy46 (fun _ _ _ => trivial) (fun hCl' => ?_)
        case hy46 => (intro w hSw; refine T.qVal ?_ hSw; (have f1 := HB1.out w hSw; have f2 := HT1.out w hSw; have f3 := (cellB f1 c).trans v2); go_simp; try with_reducible rfl)
        simp only [Act.put, List.setIfInBounds_toArray, List.set_cons_zero, List.set_cons_succ]
        replace hCl := hCl'; clear hCl'
        refine T.qTake (i := 3) (d := (some 18)) (v := ?v47) rfl rfl (by kernel_rfl) (by decide) hCl (by kernel_rfl) (by kernel_rfl) (by kernel_rfl) (by rfl) ?hy47 (fun _ _ _ => trivial) (fun hCl' => ?_)
        case hy47 => (intro w hSw; refine T.qVal ?_ hSw; (have f1 := HB1.out w hSw; have f2 := HT1.out w hSw; have f3 := (cellB f1 c).trans v2); go_simp; try with_reducible rfl)
        simp only [Act.put, List.setIfInBounds_toArray, List.set_cons_zero, List.set_cons_succ]
        replace hCl := hCl'; clear hCl'
        refine T.qTake (i := 4) (d := (some 19)) (v := ?v48) rfl rfl (by kernel_rfl) (by decide) hCl (by kernel_rfl) (by kernel_rfl) (by kernel_rfl) (by rfl) ?hy48 (fun _ _ _ => trivial) (fun hCl' => ?_)
        case hy48 => (intro w hSw; refine T.qVal ?_ hSw; (have f1 := HB1.out w hSw; have f2 := HT1.out w hSw; have f3 := (cellB f1 c).trans v2); go_simp; try with_reducible rfl)
        simp only [Act.put, List.setIfInBounds_toArray, List.set_cons_zero, List.set_cons_succ]
        replace hCl := hCl'; clear hCl'
        refine T.qTake (i := 5) (d := (some 20)) (v := ?v49) rfl rfl (by kernel_rfl) (by decide) hCl (by kernel_rfl) (by kernel_rfl) (by kernel_rfl) (by rfl) ?hy49 (fun _ _ _ => trivial) (fun hCl' => ?_)
        case hy49 => (intro w hSw; refine T.qVal ?_ hSw; (have f1 := HB1.out w hSw; have f2 := HT1.out w hSw; have f3 := (cellB f1 c).trans v2); go_simp; try with_reducible rfl)
        simp only [Act.put, List.setIfInBounds_toArray, List.set_cons_zero, List.set_cons_succ]
        replace hCl := hCl'; clear hCl'
        refine T.qTake (i := 6) (d := (some 21)) (v := ?v50) rfl rfl (by kernel_rfl) (by decide) hCl (by kernel_rfl) (by kernel_rfl) (by kernel_rfl) (by rfl) ?hy50 (fun _ _ _ => trivial) (fun hCl' => ?_)
        case hy50 => (intro w hSw; refine T.qVal ?_ hSw; (have f1 := HB1.out w hSw; have f2 := HT1.out w hSw; have f3 := (cellB f1 c).trans v2); go_simp; try with_reducible rfl)
        simp only [Act.put, List.setIfInBounds_toArray, List.set_cons_zero, List.set_cons_succ]
        replace hCl := hCl'; clear hCl'
        refine T.tail_intro (by kernel_rfl) (fun y1 hy1 => ?_)
        replace kB1 := hy1.blk kB1
        replace kt := hy1.blk kt
        replace kS1 := hy1.blk kS1
        replace kW1 := hy1.blk kW1
        have V1 := V0.trans hy1
        clear HB1 HT1 V0
        refine lastG (i := 7) (by kernel_rfl) rfl (by rfl) (by decide) (fun K hK => ?_)
        go_simp
        refine hK.out _ _ ?_
        clear hK K
        refine doneG (by kernel_rfl) ?_ _
        refine S.nrm_intro ?_
        have HH := Lib.hid (And.intro kB1 (And.intro (grown_trans hG (up_grown V1 _)) (And.intro kW1 kS1)))
        gi_wp2
        go_roundw
        case rel => exact ⟨k + 1, ck, by omega, by go_num, HH.out.1, hO2.out, HH.out.2.1, HH.out.2.2.1, HH.out.2.2.2⟩
        case measure => simp [intOf]; omega
      · have hMb : (n2 == 9223372036854775807) = false := beq_eq_false_iff_ne.2 hM
        obtain ⟨nl, hnl⟩ : ∃ x, -l = x := ⟨_, rfl⟩
        have ew : IntKind.i64.wrap (n2 + nl) = n2 + nl := IntWalk.i64_in _ (by unfold T.M at bn2; omega)
        obtain ⟨sm, hsm⟩ : ∃ x, n2 + nl = x := ⟨_, rfl⟩
        replace ew := ew.trans hsm
        have HL := Lib.hid (fun w b k => least1_any (x := n1) (y := sm) w b k)
        obtain ⟨mv, hmv⟩ : ∃ x, min n1 sm = x := ⟨_, rfl⟩
        rw [hmv] at HL
        have hO2 := Lib.hid (show T.OC (ck.setIfInBounds a (.int .i64 mv)) (T.pass false (ts.take (k + 1)) f) by
          rw [← tk.out, T.relax_put (by show ok (c : Int) < T.M; unfold T.M at *; omega)]
          have q := hO.put (m := (a : Int)) i1 i2 mv
          have e : min (ok (a : Int)) (ok (c : Int) + T.rch false (((a : Int), (c : Int)), l, u)) = mv := by
            rw [← hmv, ← hsm, hn1, hn2]
            rw [← hnl]; rfl
          show T.OC _ (T.put ok (a : Int) (min (ok (a : Int)) (ok (c : Int) + T.rch false (((a : Int), (c : Int)), l, u))))
          rw [e]
          exact q)
        have PR := Lib.hid (fun w => downwards1_any l u w (by omega) (by omega))
        rw [hnl] at PR
        have HG := Lib.hid hG
        clear hO tk bn bn1 hn1 hn2 hG HT HBN HI HU hUr hsm hmv i1 i2 i3 i4 i5 i6 i7 i8
        gi_wp2_with fail
        obtain ⟨q, hq⟩ : ∃ x, wr.heap.size = x := ⟨_, rfl⟩
        obtain ⟨W1, hW1⟩ : ∃ x, wr.alloc (.cells (TiC a c l u) 145) = x := ⟨_, rfl⟩
        rw [hq] at kt lB2 lS lW
        rw [hW1] at kt kB1 kS1 kW1 V0
        try rw [hq]
        try rw [hW1]
        clear hW1 kB kS kW hq
        have HB1 := Lib.hid (fun w (u : Up W1 w) => u.blk kB1)
        have HT1 := Lib.hid (fun w (u : Up W1 w) => u.blk kt)
        refine wpIn_nrm ?_
        refine T.regionQ (fun w' => Up W1 w') 7 1 hmx (by kernel_rfl) (by kernel_rfl) ((Up.refl W1).drew) (fun hCl => ?_)
        refine T.qTake (i := 0) (d := (some 15)) (v := ?v51) rfl rfl (by kernel_rfl) (by decide) hCl (by kernel_rfl) (by kernel_rfl) (by kernel_rfl) (by rfl) ?hy51 (fun _ _ _ => trivial) (fun hCl' => ?_)
        case hy51 => (intro w hSw; refine T.qVal ?_ hSw; (have f1 := HB1.out w hSw; have f2 := HT1.out w hSw; have f3 := (cellB f1 c).trans v2); go_simp; try with_reducible rfl)
        simp only [Act.put, List.setIfInBounds_toArray, List.set_cons_zero, List.set_cons_succ]
        replace hCl := hCl'; clear hCl'
        refine T.qTake (i := 1) (d := (some 16)) (v := ?v52) rfl rfl (by kernel_rfl) (by decide) hCl (by kernel_rfl) (by kernel_rfl) (by kernel_rfl) (by rfl) ?hy52 (fun _ _ _ => trivial) (fun hCl' => ?_)
        case hy52 => (intro w hSw; refine T.qVal ?_ hSw; (have f1 := HB1.out w hSw; have f2 := HT1.out w hSw; have f3 := (cellB f1 c).trans v2); go_simp; try with_reducible rfl)
        simp only [Act.put, List.setIfInBounds_toArray, List.set_cons_zero, List.set_cons_succ]
        replace hCl := hCl'; clear hCl'
        refine T.qTake (i := 2) (d := (some 17)) (v := ?v53) rfl rfl (by kernel_rfl) (by decide) hCl (by kernel_rfl) (by kernel_rfl) (by kernel_rfl) (by rfl) ?hy53 (fun _ _ _ => trivial) (fun hCl' => ?_)
        case hy53 => (intro w hSw; refine T.qVal ?_ hSw; (have f1 := HB1.out w hSw; have f2 := HT1.out w hSw; have f3 := (cellB f1 c).trans v2); go_simp; try with_reducible rfl)
        simp only [Act.put, List.setIfInBounds_toArray, List.set_cons_zero, List.set_cons_succ]
        replace hCl := hCl'; clear hCl'
        refine T.qTake (i := 3) (d := (some 18)) (v := ?v54) rfl rfl (by kernel_rfl) (by decide) hCl (by kernel_rfl) (by kernel_rfl) (by kernel_rfl) (by rfl) ?hy54 (fun _ _ _ => trivial) (fun hCl' => ?_)
        case hy54 => (intro w hSw; refine T.qVal ?_ hSw; (have f1 := HB1.out w hSw; have f2 := HT1.out w hSw; have f3 := (cellB f1 c).trans v2); go_simp; try with_reducible rfl)
        simp only [Act.put, List.setIfInBounds_toArray, List.set_cons_zero, List.set_cons_succ]
        replace hCl := hCl'; clear hCl'
        refine T.qTake (i := 4) (d := (some 19)) (v := ?v55) rfl rfl (by kernel_rfl) (by decide) hCl (by kernel_rfl) (by kernel_rfl) (by kernel_rfl) (by rfl) ?hy55 (fun _ _ _ => trivial) (fun hCl' => ?_)
        case hy55 => (intro w hSw; refine T.qVal ?_ hSw; (have f1 := HB1.out w hSw; have f2 := HT1.out w hSw; have f3 := (cellB f1 c).trans v2); go_simp; try with_reducible rfl)
        simp only [Act.put, List.setIfInBounds_toArray, List.set_cons_zero, List.set_cons_succ]
        replace hCl := hCl'; clear hCl'
        refine T.qTake (i := 5) (d := (some 20)) (v := ?v56) rfl rfl (by kernel_rfl) (by decide) hCl (by kernel_rfl) (by kernel_rfl) (by kernel_rfl) (by rfl) ?hy56 (fun _ _ _ => trivial) (fun hCl' => ?_)
        case hy56 => (intro w hSw; refine T.qVal ?_ hSw; (have f1 := HB1.out w hSw; have f2 := HT1.out w hSw; have f3 := (cellB f1 c).trans v2); go_simp; try with_reducible rfl)
        simp only [Act.put, List.setIfInBounds_toArray, List.set_cons_zero, List.set_cons_succ]
        replace hCl := hCl'; clear hCl'
        refine T.qTake (i := 6) (d := (some 21)) (v := ?v57) rfl rfl (by kernel_rfl) (by decide) hCl (by kernel_rfl) (by kernel_rfl) (by kernel_rfl) (by rfl) ?hy57 (fun _ _ _ => trivial) (fun hCl' => ?_)
        case hy57 => (intro w hSw; refine T.qVal ?_ hSw; (have f1 := HB1.out w hSw; have f2 := HT1.out w hSw; have f3 := (cellB f1 c).trans v2); go_simp; try with_reducible rfl)
        simp only [Act.put, List.setIfInBounds_toArray, List.set_cons_zero, List.set_cons_succ]
        replace hCl := hCl'; clear hCl'
        refine T.tail_intro (by kernel_rfl) (fun y1 hy1 => ?_)
        replace kB1 := hy1.blk kB1
        replace kt := hy1.blk kt
        replace kS1 := hy1.blk kS1
        replace kW1 := hy1.blk kW1
        have V1 := V0.trans hy1
        clear HB1 HT1 V0
        refine lastG (i := 7) (by kernel_rfl) rfl (by rfl) (by decide) (fun K hK => ?_)
        go_simp
        refine hK.out _ _ ?_
        clear hK K
        refine doneG (by kernel_rfl) ?_ _
        refine S.nrm_intro ?_
        gi_wp2_with fail
        refine wpIn_nrm ?_
        refine regionG (fun w' => Up y1 w' ∧ mblk w' B = some (.cells ck 85 (0, 0)) ∧ mblk w' q = some (.cells (TiC a c l u) 145 (0, 0)) ∧ mblk w' (q0 + 1) = some (.cells #[.func (.func 118) #[] #[], .int .i64 (-1)] 108 (0, 0))) 28 (by kernel_rfl) ⟨(Up.refl y1).drew, by rw [blk_drew]; exact kB1, by rw [blk_drew]; exact kt, by rw [blk_drew]; exact kS1⟩ (fun hHeld hCl => ?_)
        clear kt kB1 kS1
        refine takeG (i := 0) (d := (some 23)) (v := ?v58) rfl rfl (by kernel_rfl) (by kernel_rfl) (by decide) hCl (by kernel_rfl) (by kernel_rfl) (by kernel_rfl) (fun _ _ _ h => h) (by rfl) ?hy58 (fun _ _ _ => trivial) (by assumption) (fun hCl' => ?_)
        case hy58 => ((intro w hSw; (try dsimp only at hSw); (try go_split_ands); go_simp); try with_reducible rfl)
        simp only [Act.put, List.setIfInBounds_toArray, List.set_cons_zero, List.set_cons_succ]
        replace hCl := hCl'; clear hCl'
        refine takeG (i := 1) (d := (some 24)) (v := ?v59) rfl rfl (by kernel_rfl) (by kernel_rfl) (by decide) hCl (by kernel_rfl) (by kernel_rfl) (by kernel_rfl) (fun _ _ _ h => h) (by rfl) ?hy59 (fun _ _ _ => trivial) (by assumption) (fun hCl' => ?_)
        case hy59 => ((intro w hSw; (try dsimp only at hSw); (try go_split_ands); go_simp); try with_reducible rfl)
        simp only [Act.put, List.setIfInBounds_toArray, List.set_cons_zero, List.set_cons_succ]
        replace hCl := hCl'; clear hCl'
        refine takeG (i := 2) (d := (some 25)) (v := ?v60) rfl rfl (by kernel_rfl) (by kernel_rfl) (by decide) hCl (by kernel_rfl) (by kernel_rfl) (by kernel_rfl) (fun _ _ _ h => h) (by rfl) ?hy60 (fun _ _ _ => trivial) (by assumption) (fun hCl' => ?_)
        case hy60 => ((intro w hSw; (try dsimp only at hSw); (try go_split_ands); go_simp); try with_reducible rfl)
        simp only [Act.put, List.setIfInBounds_toArray, List.set_cons_zero, List.set_cons_succ]
        replace hCl := hCl'; clear hCl'
        refine takeG (i := 3) (d := (some 26)) (v := ?v61) rfl rfl (by kernel_rfl) (by kernel_rfl) (by decide) hCl (by kernel_rfl) (by kernel_rfl) (by kernel_rfl) (fun _ _ _ h => h) (by rfl) ?hy61 (fun _ _ _ => trivial) (by assumption) (fun hCl' => ?_)
        case hy61 => ((intro w hSw; (try dsimp only at hSw); (try go_split_ands); go_simp); try with_reducible rfl)
        simp only [Act.put, List.setIfInBounds_toArray, List.set_cons_zero, List.set_cons_succ]
        replace hCl := hCl'; clear hCl'
        refine takeG (i := 4) (d := (some 27)) (v := ?v62) rfl rfl (by kernel_rfl) (by kernel_rfl) (by decide) hCl (by kernel_rfl) (by kernel_rfl) (by kernel_rfl) (fun _ _ _ h => h) (by rfl) ?hy62 (fun _ _ _ => trivial) (by assumption) (fun hCl' => ?_)
        case hy62 => ((intro w hSw; (try dsimp only at hSw); (try go_split_ands); go_simp); try with_reducible rfl)
        simp only [Act.put, List.setIfInBounds_toArray, List.set_cons_zero, List.set_cons_succ]
        replace hCl := hCl'; clear hCl'
        refine takeG (i := 5) (d := (some 28)) (v := ?v63) rfl rfl (by kernel_rfl) (by kernel_rfl) (by decide) hCl (by kernel_rfl) (by kernel_rfl) (by kernel_rfl) (fun _ _ _ h => h) (by rfl) ?hy63 (fun _ _ _ => trivial) (by assumption) (fun hCl' => ?_)
        case hy63 => ((intro w hSw; (try dsimp only at hSw); (try go_split_ands); go_simp); try with_reducible rfl)
        simp only [Act.put, List.setIfInBounds_toArray, List.set_cons_zero, List.set_cons_succ]
        replace hCl := hCl'; clear hCl'
        refine takeG (i := 6) (d := (some 29)) (v := ?v64) rfl rfl (by kernel_rfl) (by kernel_rfl) (by decide) hCl (by kernel_rfl) (by kernel_rfl) (by kernel_rfl) (fun _ _ _ h => h) (by rfl) ?hy64 (fun _ _ _ => trivial) (by assumption) (fun hCl' => ?_)
        case hy64 => ((intro w hSw; (try dsimp only at hSw); (try go_split_ands); go_simp); try with_reducible rfl)
        simp only [Act.put, List.setIfInBounds_toArray, List.set_cons_zero, List.set_cons_succ]
        replace hCl := hCl'; clear hCl'
        refine takeG (i := 7) (d := (some 30)) (v := ?v65) rfl rfl (by kernel_rfl) (by kernel_rfl) (by decide) hCl (by kernel_rfl) (by kernel_rfl) (by kernel_rfl) (fun _ _ _ h => h) (by rfl) ?hy65 (fun _ _ _ => trivial) (by assumption) (fun hCl' => ?_)
        case hy65 => ((intro w hSw; (try dsimp only at hSw); (try go_split_ands); go_simp); try with_reducible rfl)
        simp only [Act.put, List.setIfInBounds_toArray, List.set_cons_zero, List.set_cons_succ]
        replace hCl := hCl'; clear hCl'
        refine takeG (i := 8) (d := (some 31)) (v := ?v66) rfl rfl (by kernel_rfl) (by kernel_rfl) (by decide) hCl (by kernel_rfl) (by kernel_rfl) (by kernel_rfl) (fun _ _ _ h => h) (by rfl) ?hy66 (fun _ _ _ => trivial) (by assumption) (fun hCl' => ?_)
        case hy66 => ((intro w hSw; (try dsimp only at hSw); (try go_split_ands); go_simp); try with_reducible rfl)
        simp only [Act.put, List.setIfInBounds_toArray, List.set_cons_zero, List.set_cons_succ]
        replace hCl := hCl'; clear hCl'
        refine takeG (i := 9) (d := (some 32)) (v := ?v67) rfl rfl (by kernel_rfl) (by kernel_rfl) (by decide) hCl (by kernel_rfl) (by kernel_rfl) (by kernel_rfl) (fun _ _ _ h => h) (by rfl) ?hy67 (fun _ _ _ => trivial) (by assumption) (fun hCl' => ?_)
        case hy67 => ((intro w hSw; (try dsimp only at hSw); (try go_split_ands); go_simp); try with_reducible rfl)
        simp only [Act.put, List.setIfInBounds_toArray, List.set_cons_zero, List.set_cons_succ]
        replace hCl := hCl'; clear hCl'
        refine takeG (i := 10) (d := (some 33)) (v := ?v68) rfl rfl (by kernel_rfl) (by kernel_rfl) (by decide) hCl (by kernel_rfl) (by kernel_rfl) (by kernel_rfl) (fun _ _ _ h => h) (by rfl) ?hy68 (fun _ _ _ => trivial) (by assumption) (fun hCl' => ?_)
        case hy68 => ((intro w hSw; (try dsimp only at hSw); (try go_split_ands); go_simp); try with_reducible rfl)
        simp only [Act.put, List.setIfInBounds_toArray, List.set_cons_zero, List.set_cons_succ]
        replace hCl := hCl'; clear hCl'
        refine takeG (i := 11) (d := (some 34)) (v := ?v69) rfl rfl (by kernel_rfl) (by kernel_rfl) (by decide) hCl (by kernel_rfl) (by kernel_rfl) (by kernel_rfl) (fun _ _ _ h => h) (by rfl) ?hy69 (fun _ _ _ => trivial) (by assumption) (fun hCl' => ?_)
        case hy69 => ((intro w hSw; (try dsimp only at hSw); (try go_split_ands); go_simp); try with_reducible rfl)
        simp only [Act.put, List.setIfInBounds_toArray, List.set_cons_zero, List.set_cons_succ]
        replace hCl := hCl'; clear hCl'
        refine takeG (i := 12) (d := (some 35)) (v := ?v70) rfl rfl (by kernel_rfl) (by kernel_rfl) (by decide) hCl (by kernel_rfl) (by kernel_rfl) (by kernel_rfl) (fun _ _ _ h => h) (by rfl) ?hy70 (fun _ _ _ => trivial) (by assumption) (fun hCl' => ?_)
        case hy70 => ((intro w hSw; (try dsimp only at hSw); (try go_split_ands); go_simp); try with_reducible rfl)
        simp only [Act.put, List.setIfInBounds_toArray, List.set_cons_zero, List.set_cons_succ]
        replace hCl := hCl'; clear hCl'
        refine takeG (i := 13) (d := (some 36)) (v := ?v71) rfl rfl (by kernel_rfl) (by kernel_rfl) (by decide) hCl (by kernel_rfl) (by kernel_rfl) (by kernel_rfl) (fun _ _ _ h => h) (by rfl) ?hy71 (fun _ _ _ => trivial) (by assumption) (fun hCl' => ?_)
        case hy71 => ((intro w hSw; (try dsimp only at hSw); (try go_split_ands); go_simp); try with_reducible rfl)
        simp only [Act.put, List.setIfInBounds_toArray, List.set_cons_zero, List.set_cons_succ]
        replace hCl := hCl'; clear hCl'
        refine takeG (i := 14) (d := (some 37)) (v := ?v72) rfl rfl (by kernel_rfl) (by kernel_rfl) (by decide) hCl (by kernel_rfl) (by kernel_rfl) (by kernel_rfl) (fun _ _ _ h => h) (by rfl) ?hy72 (fun _ _ _ => trivial) (by assumption) (fun hCl' => ?_)
        case hy72 => ((intro w hSw; (try dsimp only at hSw); (try go_split_ands); go_simp); try with_reducible rfl)
        simp only [Act.put, List.setIfInBounds_toArray, List.set_cons_zero, List.set_cons_succ]
        replace hCl := hCl'; clear hCl'
        refine takeG (i := 15) (d := (some 38)) (v := ?v73) rfl rfl (by kernel_rfl) (by kernel_rfl) (by decide) hCl (by kernel_rfl) (by kernel_rfl) (by kernel_rfl) (fun _ _ _ h => h) (by rfl) ?hy73 (fun _ _ _ => trivial) (by assumption) (fun hCl' => ?_)
        case hy73 => ((intro w hSw; (try dsimp only at hSw); (try go_split_ands); go_simp); try with_reducible rfl)
        simp only [Act.put, List.setIfInBounds_toArray, List.set_cons_zero, List.set_cons_succ]
        replace hCl := hCl'; clear hCl'
        refine takeG (i := 16) (d := (some 39)) (v := ?v74) rfl rfl (by kernel_rfl) (by kernel_rfl) (by decide) hCl (by kernel_rfl) (by kernel_rfl) (by kernel_rfl) (fun _ _ _ h => h) (by rfl) ?hy74 (fun _ _ _ => trivial) (by assumption) (fun hCl' => ?_)
        case hy74 => ((intro w hSw; (try dsimp only at hSw); (try go_split_ands); go_simp); try with_reducible rfl)
        simp only [Act.put, List.setIfInBounds_toArray, List.set_cons_zero, List.set_cons_succ]
        replace hCl := hCl'; clear hCl'
        refine takeG (i := 17) (d := (some 40)) (v := ?v75) rfl rfl (by kernel_rfl) (by kernel_rfl) (by decide) hCl (by kernel_rfl) (by kernel_rfl) (by kernel_rfl) (fun _ _ _ h => h) (by rfl) ?hy75 (fun _ _ _ => trivial) (by assumption) (fun hCl' => ?_)
        case hy75 => ((intro w hSw; (try dsimp only at hSw); (try go_split_ands); go_simp); try with_reducible rfl)
        simp only [Act.put, List.setIfInBounds_toArray, List.set_cons_zero, List.set_cons_succ]
        replace hCl := hCl'; clear hCl'
        refine takeG (i := 18) (d := (some 41)) (v := ?v76) rfl rfl (by kernel_rfl) (by kernel_rfl) (by decide) hCl (by kernel_rfl) (by kernel_rfl) (by kernel_rfl) (fun _ _ _ h => h) (by rfl) ?hy76 (fun _ _ _ => trivial) (by assumption) (fun hCl' => ?_)
        case hy76 => ((intro w hSw; (try dsimp only at hSw); (try go_split_ands); go_simp); try with_reducible rfl)
        simp only [Act.put, List.setIfInBounds_toArray, List.set_cons_zero, List.set_cons_succ]
        replace hCl := hCl'; clear hCl'
        refine takeG (i := 19) (d := (some 42)) (v := ?v77) rfl rfl (by kernel_rfl) (by kernel_rfl) (by decide) hCl (by kernel_rfl) (by kernel_rfl) (by kernel_rfl) (fun _ _ _ h => h) (by rfl) ?hy77 (fun _ _ _ => trivial) (by assumption) (fun hCl' => ?_)
        case hy77 => ((intro w hSw; (try dsimp only at hSw); (try go_split_ands); go_simp); try with_reducible rfl)
        simp only [Act.put, List.setIfInBounds_toArray, List.set_cons_zero, List.set_cons_succ]
        replace hCl := hCl'; clear hCl'
        refine takeG (i := 20) (d := (some 43)) (v := ?v78) rfl rfl (by kernel_rfl) (by kernel_rfl) (by decide) hCl (by kernel_rfl) (by kernel_rfl) (by kernel_rfl) (fun _ _ _ h => h) (by rfl) ?hy78 (fun _ _ _ => trivial) (by assumption) (fun hCl' => ?_)
        case hy78 => ((intro w hSw; (try dsimp only at hSw); (try go_split_ands); go_simp); try with_reducible rfl)
        simp only [Act.put, List.setIfInBounds_toArray, List.set_cons_zero, List.set_cons_succ]
        replace hCl := hCl'; clear hCl'
        refine takeG (i := 21) (d := (some 44)) (v := ?v79) rfl rfl (by kernel_rfl) (by kernel_rfl) (by decide) hCl (by kernel_rfl) (by kernel_rfl) (by kernel_rfl) (fun _ _ _ h => h) (by rfl) ?hy79 (fun _ _ _ => trivial) (by assumption) (fun hCl' => ?_)
        case hy79 => ((intro w hSw; (try dsimp only at hSw); (try go_split_ands); go_simp); try with_reducible rfl)
        simp only [Act.put, List.setIfInBounds_toArray, List.set_cons_zero, List.set_cons_succ]
        replace hCl := hCl'; clear hCl'
        refine takeG (i := 26) (d := (some 49)) (v := ?v80) rfl rfl (by kernel_rfl) (by kernel_rfl) (by decide) hCl (by kernel_rfl) (by kernel_rfl) (by kernel_rfl) (fun _ _ _ h => h) (by rfl) ?hy80 (fun _ _ _ => trivial) (by assumption) (fun hCl' => ?_)
        case hy80 => ((intro w hSw; (try dsimp only at hSw); (try go_split_ands); go_simp); try with_reducible rfl)
        simp only [Act.put, List.setIfInBounds_toArray, List.set_cons_zero, List.set_cons_succ]
        replace hCl := hCl'; clear hCl'
        refine nextG (i := 22) (by kernel_rfl) rfl (by rfl) hCl (fun K hK => ?_)
        go_simp
        refine ⟨trivial, (callsIn_wide.2 (PR.out _)).mono ?_⟩
        rintro e y2 ⟨rfl, u1⟩
        refine hK.out _ _ ⟨hHeld.1.trans u1, u1.blk hHeld.2.1, u1.blk hHeld.2.2.1, u1.blk hHeld.2.2.2⟩ (fun hHeld hCl => ?_)
        clear hK K u1 PR
        try simp only [Act.put, List.setIfInBounds_toArray, List.set_cons_zero, List.set_cons_succ]
        refine takeG (i := 23) (d := (some 46)) (v := ?v82) rfl rfl (by kernel_rfl) (by kernel_rfl) (by decide) hCl (by kernel_rfl) (by kernel_rfl) (by kernel_rfl) (fun _ _ _ h => h) (by rfl) ?hy82 (fun _ _ _ => trivial) (by assumption) (fun hCl' => ?_)
        case hy82 => ((intro w hSw; (try dsimp only at hSw); (try go_split_ands); go_simp); try with_reducible rfl)
        simp only [Act.put, List.setIfInBounds_toArray, List.set_cons_zero, List.set_cons_succ]
        replace hCl := hCl'; clear hCl'
        refine nextG (i := 24) (by kernel_rfl) rfl (by rfl) hCl (fun K hK => ?_)
        go_simp
        obtain ⟨y3, hY⟩ : ∃ Y, y2.alloc (.cells #[.int .i64 sm] 3) = Y := ⟨_, rfl⟩
        obtain ⟨b4, hb4⟩ : ∃ b, y2.heap.size = b := ⟨_, rfl⟩
        have z4 : mblk y3 b4 = some (.cells #[.int .i64 sm] 3 (0, 0)) := by rw [← hY]; exact blk_new _ _ _ hb4.symm
        have V : Up y2 y3 := by rw [← hY]; exact (Up.refl y2).alloc (.cells #[.int .i64 sm] 3)
        rw [hb4, hY]
        refine hK.out _ _ ⟨hHeld.1.trans V, V.blk hHeld.2.1, V.blk hHeld.2.2.1, V.blk hHeld.2.2.2⟩ (fun hHeld hCl => ?_)
        clear hK K hY V hb4
        try simp only [Act.put, List.setIfInBounds_toArray, List.set_cons_zero, List.set_cons_succ]
        refine nextG (i := 25) (by kernel_rfl) rfl (by rfl) hCl (fun K hK => ?_)
        go_simp
        refine ⟨trivial, (callsIn_wide.2 (HL.out _ _ z4)).mono ?_⟩
        rintro e y4 ⟨rfl, rfl⟩
        refine hK.out _ _ hHeld (fun hHeld hCl => ?_)
        clear hK K z4 HL
        try simp only [Act.put, List.setIfInBounds_toArray, List.set_cons_zero, List.set_cons_succ]
        refine takeG (i := 27) (d := (some 50)) (v := ?v85) rfl rfl (by kernel_rfl) (by kernel_rfl) (by decide) hCl (by kernel_rfl) (by kernel_rfl) (by kernel_rfl) (fun _ _ _ h => h) (by rfl) ?hy85 (fun _ _ _ => trivial) (by assumption) (fun hCl' => ?_)
        case hy85 => ((intro w hSw; (try dsimp only at hSw); (try go_split_ands); go_simp); try with_reducible rfl)
        simp only [Act.put, List.setIfInBounds_toArray, List.set_cons_zero, List.set_cons_succ]
        replace hCl := hCl'; clear hCl'
        have kB3 := hHeld.2.1
        have fB := frozB kB3
        have cB := (cellB kB3 a).trans v1
        have lB3 := blk_lt kB3
        clear hCl
        refine lastG (i := 28) (by kernel_rfl) rfl (by rfl) (by decide) (fun K hK => ?_)
        go_simp
        obtain ⟨y5, hY⟩ : ∃ Y, y3.setCell ⟨B, a, none⟩ (.int .i64 mv) = Y := ⟨_, rfl⟩
        have gS : y3.grownBy y5 (some B) := by rw [← hY]; exact grown_set y3 B a _
        have kB4 : mblk y5 B = some (.cells (ck.setIfInBounds a (.int .i64 mv)) 85 (0, 0)) := by rw [← hY]; exact blk_put kB3 a _
        have kS4 := grown_blk gS hHeld.2.2.2 (fun e => by have := Option.some.inj e; omega)
        have kW4 := grown_blk gS (hHeld.1.blk kW1) (fun e => by have := Option.some.inj e; omega)
        have hG4 := grown_trans (grown_trans HG.out (up_grown (V1.trans hHeld.1) _)) gS
        have HX := Lib.hid (And.intro kB4 (And.intro hG4 (And.intro kW4 kS4)))
        rw [hY]
        refine hK.out _ _ ?_
        clear hK K hY kB3 fB cB lB3 gS kB4 kS4 kW4 hG4 hHeld kW1 V1
        refine doneG (by kernel_rfl) ?_ _
        refine S.nrm_intro ?_
        gi_wp2
        go_roundw
        case rel => exact ⟨k + 1, _, by omega, by go_num, HX.out.1, hO2.out, HX.out.2.1, HX.out.2.2.1, HX.out.2.2.2⟩
        case measure => simp [intOf]; omega
    · obtain rfl : k = ts.length := by omega
      rw [List.take_length] at hO
      gi_wp2
      simp only [Exit.noGoto]
      go_end0
      exact ⟨rfl, ⟨_, kB, hO⟩, hG⟩
end

end Go.Proofs.Ytlpkheoljbdajaa
