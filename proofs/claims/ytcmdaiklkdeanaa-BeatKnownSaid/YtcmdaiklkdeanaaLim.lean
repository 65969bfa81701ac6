import Derived.Test.YtcmdaiklkdeanaaRnI
import Derived.Sort.LoopGhostIn
/- The contracts of the iterators limits and comparisons, which range over iterators. -/
namespace Go.Proofs.Ytcmdaiklkdeanaa
open Go.RowKit Go.Shelf
attribute [local go_sem] Oper.semAt_some

theorem cell_yTie {w : World} {b : Nat} {cs : Array Value} (h : mblk w b = some (.cells cs 165 (0, 0))) (j : Nat) : w.cell? ⟨b, j, none⟩ = cs[j]? := cellB h j
attribute [go_sem] cell_yTie
theorem T.leaves_marks {F : Fence} {n : Nat} {P : Program} {fn : Func} {tmps : Array Value} {R : Ending → World → Prop} {base : Nat} {Jn : World → Prop} (hJn : ∀ (X : World) (d : Nat), Jn X → X.heap[d]? = some (.deferred (some [])) → base ≤ d → Jn (X.putObj d (.deferred none))) : ∀ (Ds : List Nat) (W : World), Ds.Nodup → (∀ d, d ∈ Ds → base ≤ d ∧ W.heap[d]? = some (.deferred (some []))) → Jn W →
    (∀ W', Jn W' → LeavesIn F n P fn tmps R [] .returning W') → LeavesInM F n P fn tmps R (Ds.map S.mark) .returning W
  | [], W, _, _, hj, h => h W hj
  | d :: Ds, W, hn, hd, hj, h => by
    obtain ⟨n1, n2⟩ := List.nodup_cons.1 hn
    have hd0 := hd d (by simp)
    refine ⟨by simp, .inl ⟨d, _, rfl, run_takeDeferred hd0.2, ?_⟩⟩
    refine T.leaves_marks hJn Ds _ n2 (fun e he => ⟨(hd e (by simp [he])).1, ?_⟩) (hJn W d hj hd0.2 hd0.1) h
    exact (World.putObj_heap_other (fun q => n1 (by rw [← q]; exact he))).trans (hd e (by simp [he])).2
def T.limit (m : Int × Int) : T.T6 := (m.1, m.2, -1, 0, -100000, 100000)
def T.lims (l : List (Int × Int)) : List T.T6 := (l.filter fun m => !(m.1 == -1)).map T.limit
def T.limits (n H : Nat) : List T.T6 := T.lims (T.moms n H)
theorem T.lims_no {l : List (Int × Int)} {h : Int} : T.lims (l ++ [(-1, h)]) = T.lims l := by
  unfold T.lims
  rw [List.filter_append]
  simp
theorem T.lims_yes {l : List (Int × Int)} {m : Int × Int} (hm : ¬ m.1 = -1) : T.lims (l ++ [m]) = T.lims l ++ [T.limit m] := by
  unfold T.lims
  rw [List.filter_append]
  have e : (!(m.1 == -1)) = true := by simp [hm]
  rw [List.filter_cons, if_pos e, List.map_append]
  rfl
theorem T.lims_pre {l m : List (Int × Int)} (h : l <+: m) : T.lims l <+: T.lims m := by
  obtain ⟨t, rfl⟩ := h
  unfold T.lims
  rw [List.filter_append, List.map_append]
  exact List.prefix_append _ _
section
variable {H : Nat} {aR aO aP : Option Addr} {nR cR nO cO nP cP : Nat} {b0 b1 b2 b3 b4 : Bool} {B : Nat} {p : Nat → Prop} {w0 w : World}
set_option maxRecDepth 100000 in
set_option maxHeartbeats 1000000 in
theorem limits_seq (hH : H ≤ 12) (hR : nR ≤ 5) (kB : mblk w B = some (.cells (CeC H (.slice aR nR cR) (.slice aO nO cO) (.slice aP nP cP) b0 b1 b2 b3 b4) 79 (0, 0))) :
    T.Seq 115 #[.pointer (some ⟨B, 0, none⟩)] (fun x : T.T6 => #[T.tv x]) (T.limits nR H) p w := by
  intro l J W u hpq hJ hY h0
  have kB' := u.blk kB
  have HY := Lib.hid hY
  have HJ := Lib.hid hJ
  have HPQ := Lib.hid hpq
  clear hY hJ hpq kB u
  refine callsIn_of_wp_marks Try.func115 rfl trivial ?_ rfl
  simp only [Try.ntmps115, List.size_toArray, List.length_cons, List.length_nil, Nat.reduceAdd, Nat.reduceSub, Array.replicate_succ, Array.replicate_zero, List.push_toArray, List.append_toArray, List.nil_append, List.cons_append]
  have kb1 := blk_keep (.cells #[.func (.yield l) #[] #[]] 165) kB'
  have lt1 := blk_lt kb1
  gi_wp2_with fail
  refine ⟨trivial, (callsIn_wide.2 (moments_any _)).mono ?_⟩
  rintro e w2 ⟨rfl, hw2⟩
  have ky : mblk w2 W.heap.size = some (.cells #[.func (.yield l) #[] #[]] 165 (0, 0)) := by rw [← hw2]; exact blk_keep _ (blk_new W (.cells #[.func (.yield l) #[] #[]] 165) _ rfl)
  have kc : mblk w2 (W.heap.size + 1) = some (.cells (CeC H (.slice aR nR cR) (.slice aO nO cO) (.slice aP nP cP) b0 b1 b2 b3 b4) 79 (0, 0)) := by rw [← hw2]; exact blk_new (W.alloc (.cells #[.func (.yield l) #[] #[]] 165)) (.cells (CeC H (.slice aR nR cR) (.slice aO nO cO) (.slice aP nP cP) b0 b1 b2 b3 b4) 79) _ (by simp)
  have uw : Up W w2 := by rw [← hw2]; exact ((Up.refl W).alloc _).alloc _
  have zw1 : W.heap.size + 2 ≤ w2.heap.size := by rw [← hw2]; simp
  have zw2 : w2.heap.size ≤ W.heap.size + 2 := by rw [← hw2]; simp
  have J0 : J [] w2 := T.own_up HJ.out h0 uw
  have ez : (W.alloc (.cells #[.func (.yield l) #[] #[]] 165)).heap.size = W.heap.size + 1 := by simp
  clear hw2 h0 kb1 lt1 kB'
  gi_wp2_with fail
  try rw [ez]
  clear ez
  refine T.rangeAll (p := fun b => p b ∨ b = w2.heap.size + 1) rfl (enters_of Try.func98 (by kernel_rfl) rfl) (enc := fun x : Int × Int => #[MoV x.1 x.2]) (fun _ => rfl)
    (moments_seq hH hR (fun e => e.elim (HPQ.out _ (by omega)) (by omega)) kc) (.inr rfl) (fun e => e.elim (HPQ.out _ (by omega)) (by omega)) (fun b hb e => e.elim (HPQ.out b (by omega)) (by omega))
    (fun pre X => J (T.lims pre) X ∧ mblk X W.heap.size = some (.cells #[.func (.yield l) #[] #[]] 165 (0, 0)) ∧ w2.heap.size ≤ X.heap.size) ?hI ⟨J0, ky, Nat.le_refl _⟩
    (fun x af X => ∃ Bx, w2.heap.size + 2 ≤ Bx ∧ mblk X Bx = some (.cells #[.int .i64 x.1, .int .i64 x.2] 100 (0, 0)) ∧ af = { tmps := List.toArray ((.func (.yield l) #[] #[] : Value) :: .pointer (some ⟨B, 0, none⟩) :: .pointer (some ⟨W.heap.size, 0, none⟩) :: .pointer (some ⟨Bx, 0, none⟩) :: (CeV H (.slice aR nR cR) (.slice aO nO cO) (.slice aP nP cP) b0 b1 b2 b3 b4) :: .func (.func 98) #[] #[.pointer (some ⟨W.heap.size + 1, 0, none⟩)] :: MoV x.1 x.2 :: undef :: undef :: undef :: undef :: undef :: undef :: undef :: undef :: undef :: undef :: []), defers := [] }) ?hAx ?assign ?body ?done
  case hI =>
    rintro pre X Y row ⟨h1, h2, h3⟩ hg hr
    exact ⟨HJ.out _ X Y row h1 hg (fun r e => ⟨by have := (hr r e).1; omega, (hr r e).2⟩), (hg.block _ (blk_lt h2) (fun e => by have := (hr _ e.symm).1; omega)).trans h2, Nat.le_trans h3 hg.size⟩
  case hAx =>
    rintro x af _ X Y row ⟨Bx, h1, h2, h3⟩ hg hr
    exact ⟨Bx, h1, (hg.block Bx (blk_lt h2) (fun e => by obtain ⟨_, o, ho, hc⟩ := hr Bx e.symm; rw [show X.heap[Bx]? = _ from h2] at ho; cases ho; simp [T.book] at hc)).trans h2, h3⟩
  case assign =>
    rintro pre x X K _ _ hX hK
    gi_wp2
    exact hK _ _ ((Up.refl X).alloc _) ⟨X.heap.size, hX, blk_new _ _ _ rfl, rfl⟩
  case body =>
    rintro pre ⟨c, h⟩ af X hpre ⟨h1, h2, h3⟩ ⟨Bx, x1, x2, rfl⟩ hz ⟨r, hr⟩
    have lx := blk_lt x2
    by_cases hc : c = -1
    · subst hc
      gi_wp2
      exact ⟨fun _ _ h _ => h, Nat.le_refl _, by rw [T.lims_no]; exact h1, h2, h3⟩
    · have hcb : (c == -1) = false := beq_eq_false_iff_ne.2 hc
      have hp2 := T.lims_pre hpre
      have hyes := T.lims_yes (l := pre) (m := (c, h)) hc
      rw [hyes] at hp2
      have HP2 := Lib.hid hp2
      have HYS := Lib.hid hyes
      have HA := Lib.hid (fun w => at_true 0 w)
      have HC := Lib.hid hc
      clear hp2 hyes hc
      gi_wp2_with fail
      refine wpIn_nrm ?_
      refine regionG (fun w' => (J (T.lims pre) w' ∧ Up X w') ∧ mblk w' W.heap.size = some (.cells #[.func (.yield l) #[] #[]] 165 (0, 0)) ∧ mblk w' Bx = some (.cells #[.int .i64 c, .int .i64 h] 100 (0, 0))) 5 (by kernel_rfl) ⟨⟨T.own_up HJ.out h1 (Up.refl X).drew, (Up.refl X).drew⟩, by rw [blk_drew]; exact h2, by rw [blk_drew]; exact x2⟩ (fun hHeld hCl => ?_)
      refine takeG (i := 0) (d := (some 10)) (v := ?v1) rfl rfl (by kernel_rfl) (by kernel_rfl) (by decide) hCl (by kernel_rfl) (by kernel_rfl) (by kernel_rfl) (fun _ _ _ h => h) (by rfl) ?hy1 (fun _ _ _ => trivial) (by assumption) (fun hCl' => ?_)
      case hy1 => ((intro w hSw; (try dsimp only at hSw); (try go_split_ands); go_simp); try with_reducible rfl)
      simp only [Act.put, List.setIfInBounds_toArray, List.set_cons_zero, List.set_cons_succ]
      replace hCl := hCl'; clear hCl'
      refine takeG (i := 1) (d := (some 11)) (v := ?v2) rfl rfl (by kernel_rfl) (by kernel_rfl) (by decide) hCl (by kernel_rfl) (by kernel_rfl) (by kernel_rfl) (fun _ _ _ h => h) (by rfl) ?hy2 (fun _ _ _ => trivial) (by assumption) (fun hCl' => ?_)
      case hy2 => ((intro w hSw; (try dsimp only at hSw); (try go_split_ands); go_simp); try with_reducible rfl)
      simp only [Act.put, List.setIfInBounds_toArray, List.set_cons_zero, List.set_cons_succ]
      replace hCl := hCl'; clear hCl'
      refine takeG (i := 3) (d := (some 13)) (v := ?v3) rfl rfl (by kernel_rfl) (by kernel_rfl) (by decide) hCl (by kernel_rfl) (by kernel_rfl) (by kernel_rfl) (fun _ _ _ h => h) (by rfl) ?hy3 (fun _ _ _ => trivial) (by assumption) (fun hCl' => ?_)
      case hy3 => ((intro w hSw; (try dsimp only at hSw); (try go_split_ands); go_simp); try with_reducible rfl)
      simp only [Act.put, List.setIfInBounds_toArray, List.set_cons_zero, List.set_cons_succ]
      replace hCl := hCl'; clear hCl'
      refine nextG (i := 2) (by kernel_rfl) rfl (by rfl) hCl (fun K hK => ?_)
      go_simp
      refine ⟨trivial, (CallsIn.inRound _ (callsIn_wide.2 (HA.out _))).mono ?_⟩
      rintro e y1 ⟨rfl, u⟩
      refine hK.out _ _ ⟨⟨T.own_up HJ.out hHeld.1.1 u, hHeld.1.2.trans u⟩, u.blk hHeld.2.1, u.blk hHeld.2.2⟩ (fun hHeld hCl => ?_)
      clear hK K u
      try simp only [Act.put, List.setIfInBounds_toArray, List.set_cons_zero, List.set_cons_succ]
      refine takeG (i := 4) (d := (some 14)) (v := ?v5) rfl rfl (by kernel_rfl) (by kernel_rfl) (by decide) hCl (by kernel_rfl) (by kernel_rfl) (by kernel_rfl) (fun _ _ _ h => h) (by rfl) ?hy5 (fun _ _ _ => trivial) (by assumption) (fun hCl' => ?_)
      case hy5 => ((intro w hSw; (try dsimp only at hSw); (try go_split_ands); go_simp); try with_reducible rfl)
      simp only [Act.put, List.setIfInBounds_toArray, List.set_cons_zero, List.set_cons_succ]
      replace hCl := hCl'; clear hCl'
      obtain ⟨fn, tmps, assign, body, hy, hRR⟩ := HY.out _ (T.limit (c, h)) y1 hHeld.1.1 HP2.out
      have hy' : (Instr.yield l #[TiV c h (-1) 0 (-100000) 100000]).run Try.prog y1 = .ok (.round l fn tmps assign body) y1 := hy
      have uX := hHeld.1.2
      have yk := hHeld.2.1
      clear hHeld hCl hy
      refine lastG (i := 5) (by kernel_rfl) rfl (by rfl) (by decide) (fun K hK => ?_)
      go_simp
      refine (T.rnd hRR).mono ?_
      rintro e w5 ⟨rfl, hJ5, hk5⟩
      have l5 := hk5.1 W.heap.size _ yk (HPQ.out _ (Nat.le_refl _))
      have z5 := hk5.2
      have q5 : ∀ (b : Nat) (o : Obj), X.heap[b]? = some o → ¬ p b → w5.heap[b]? = some o := fun b o hb hnp => hk5.1 b o ((Below.block uX b (Array.getElem?_eq_some_iff.1 hb).1).trans hb) hnp
      have zX := Nat.le_trans uX.size z5
      rw [← HYS.out] at hJ5
      clear hRR hy' yk uX hk5 h1 h2 x2
      refine hK.out _ _ ?_
      clear hK K
      refine lastG (i := 6) (by kernel_rfl) rfl (by rfl) (by decide) (fun K hK => ?_)
      go_simp
      refine hK.out _ _ ?_
      clear hK K
      refine doneG (by kernel_rfl) ?_ _
      refine S.nrm_intro ?_
      gi_wp2
      exact ⟨fun b o hb hnp => q5 b o hb (fun e => hnp ⟨.inl e, fun e2 => HPQ.out b (by omega) e⟩), zX, hJ5, l5, Nat.le_trans h3 zX⟩
  case done =>
    rintro X ⟨h1, h2, h3⟩ hz hd
    gi_wp2
    refine leaves_marks [w2.heap.size] X (by simp) (fun d hm => by rw [List.mem_singleton] at hm; subst hm; exact hd) ?_
    intro W' a1 a2 a3 a4 a5
    refine ⟨_, results_none rfl _ _ _, ⟨_, rfl⟩, HJ.out _ X W' (some w2.heap.size) h1 ⟨a1, a2, a3, by rw [a4]; exact Nat.le_refl _, fun j hj hne => a5 j (fun e => hne (by rw [List.mem_singleton] at e; rw [e]))⟩ (fun r e => ?_)⟩
    obtain rfl := Option.some.inj e
    exact ⟨by omega, _, hd, rfl⟩
/-- the tie that a comparison of an hour is -/
def T.cmp (h : Nat) (x : Int × Int × Int × Int × Int) : T.T6 := (x.2.1, (h : Int), x.2.2.1, T.hr x.2.2.1 h, x.2.2.2.1, x.2.2.2.2)
def T.cmpsAt (b0 b1 b2 b3 b4 : Bool) (ps : List (Int × Int × Int × Int × Int)) (h : Nat) : List T.T6 := (ps.filter (T.isAt b0 b1 b2 b3 b4 h)).map (T.cmp h)
def T.cmps (b0 b1 b2 b3 b4 : Bool) (ps : List (Int × Int × Int × Int × Int)) (k : Nat) : List T.T6 := (List.range k).flatMap (T.cmpsAt b0 b1 b2 b3 b4 ps)
theorem T.cmps_succ {ps : List (Int × Int × Int × Int × Int)} {k : Nat} : T.cmps b0 b1 b2 b3 b4 ps (k + 1) = T.cmps b0 b1 b2 b3 b4 ps k ++ T.cmpsAt b0 b1 b2 b3 b4 ps k := by
  unfold T.cmps
  rw [List.range_succ, List.flatMap_append]
  simp
theorem T.cmps_pre0 {ps : List (Int × Int × Int × Int × Int)} {k n : Nat} (h : k ≤ n) : T.cmps b0 b1 b2 b3 b4 ps k <+: T.cmps b0 b1 b2 b3 b4 ps n := by
  unfold T.cmps
  obtain ⟨t, ht⟩ := range_prefix h
  rw [← ht, List.flatMap_append]
  exact List.prefix_append _ _
theorem T.cmps_pre {ps : List (Int × Int × Int × Int × Int)} {k n : Nat} (h : k < n) {l : List (Int × Int × Int × Int × Int)} (hl : l <+: ps.filter (T.isAt b0 b1 b2 b3 b4 k)) : T.cmps b0 b1 b2 b3 b4 ps k ++ l.map (T.cmp k) <+: T.cmps b0 b1 b2 b3 b4 ps n := by
  refine List.IsPrefix.trans ?_ (T.cmps_pre0 (k := k + 1) h)
  rw [T.cmps_succ]
  obtain ⟨t, ht⟩ := hl
  unfold T.cmpsAt
  rw [← ht, List.map_append, ← List.append_assoc]
  exact List.prefix_append _ _
set_option maxRecDepth 100000 in
set_option maxHeartbeats 2000000 in
theorem comparisons_seq {ps : List (Int × Int × Int × Int × Int)} (I : Prs w0 (.slice aP nP cP) ps) (hps : ∀ x ∈ ps, 0 ≤ x.2.1 ∧ x.2.1 ≤ 4 ∧ -1 ≤ x.2.2.1 ∧ x.2.2.1 ≤ 4) (hH : H ≤ 12) (hw0 : T.Sm w0 w) (hp : ∀ b, p b → w0.heap.size ≤ b) (hne : ¬ p B) (kB : mblk w B = some (.cells (CeC H (.slice aR nR cR) (.slice aO nO cO) (.slice aP nP cP) b0 b1 b2 b3 b4) 79 (0, 0))) :
    T.Seq 119 #[.pointer (some ⟨B, 0, none⟩)] (fun x : T.T6 => #[T.tv x]) (T.cmps b0 b1 b2 b3 b4 ps (H + 1)) p w := by
  intro l J W u hpq hJ hY h0
  have kB' := u.blk kB
  have sW := hw0.trans (T.Sm.of u)
  have HY := Lib.hid hY
  have HJ := Lib.hid hJ
  have HPQ := Lib.hid hpq
  have HP := Lib.hid hp
  have HI := Lib.hid I
  have HPS := Lib.hid hps
  clear hY hJ hpq kB u hw0 hp I hps
  refine callsIn_of_wp_marks Try.func119 rfl trivial ?_ rfl
  simp only [Try.ntmps119, List.size_toArray, List.length_cons, List.length_nil, Nat.reduceAdd, Nat.reduceSub, Array.replicate_succ, Array.replicate_zero, List.push_toArray, List.append_toArray, List.nil_append, List.cons_append]
  have ky := blk_new W (.cells #[.func (.yield l) #[] #[]] 165) _ rfl
  have kb1 := blk_keep (.cells #[.func (.yield l) #[] #[]] 165) kB'
  have lt1 := blk_lt kb1
  have J0 : J (T.cmps b0 b1 b2 b3 b4 ps 0) (W.alloc (.cells #[.func (.yield l) #[] #[]] 165)) := T.own_up HJ.out h0 ((Up.refl W).alloc _)
  have s0 := sW.trans (T.Sm.of ((Up.refl W).alloc (.cells #[.func (.yield l) #[] #[]] 165)))
  have ew : IntKind.i64.wrap ((H : Int) + 1) = (H : Int) + 1 := IntWalk.i64_in _ (by omega)
  gi_wp2_with fail
  clear ew lt1 kB'
  obtain ⟨W0, hW0⟩ : ∃ x, W.alloc (.cells #[.func (.yield l) #[] #[]] 165) = x := ⟨_, rfl⟩
  have z0 : W.heap.size + 1 ≤ W0.heap.size := by rw [← hW0]; simp
  rw [hW0] at J0 s0 ky kb1 ⊢
  clear hW0 h0 sW
  refine wpIn_loop_ghost_k (fun gk x wr => ∃ (u3 u10 u11 u12 u13 u14 u30 : Value) (k : Nat) (Ds : List Nat), k ≤ H + 1 ∧ gk = H + 1 - k ∧ x = { tmps := List.toArray ((.func (.yield l) #[] #[] : Value) :: .pointer (some ⟨B, 0, none⟩) :: .pointer (some ⟨W.heap.size, 0, none⟩) :: u3 :: undef :: .pointer (some ⟨B, 0, none⟩) :: .pointer (some ⟨B, 0, none⟩) :: .int .i64 H :: .int .i64 (H + 1) :: .int .i64 k :: u10 :: u11 :: u12 :: u13 :: u14 :: undef :: undef :: undef :: undef :: undef :: undef :: undef :: undef :: undef :: undef :: undef :: undef :: undef :: undef :: undef :: u30 :: []), defers := Ds.map S.mark } ∧
      (Ds.Nodup ∧ ∀ d, d ∈ Ds → W.heap.size + 1 ≤ d ∧ wr.heap[d]? = some (.deferred (some []))) ∧ mblk wr W.heap.size = some (.cells #[.func (.yield l) #[] #[]] 165 (0, 0)) ∧ mblk wr B = some (.cells (CeC H (.slice aR nR cR) (.slice aO nO cO) (.slice aP nP cP) b0 b1 b2 b3 b4) 79 (0, 0)) ∧ J (T.cmps b0 b1 b2 b3 b4 ps k) wr ∧ T.Sm w0 wr ∧ W.heap.size + 1 ≤ wr.heap.size) (H + 1) ?start ?round
  case start => exact ⟨_, _, _, _, _, _, _, 0, [], Nat.zero_le _, rfl, rfl, ⟨List.nodup_nil, fun d hd => by cases hd⟩, ky, kb1, J0, s0, z0⟩
  case round =>
    clear ky kb1 J0 s0 z0 W0
    rintro gk x wr ⟨u3, u10, u11, u12, u13, u14, u30, k, Ds, hk, rfl, rfl, ⟨hnd, hDs⟩, ky, kb, hJs, sm, zr⟩ J' K hJ' hK'
    by_cases hlt : k < H + 1
    · have hlt' : (k : Int) < (H : Int) + 1 := by omega
      have lb := blk_lt kb
      have HC := Lib.hid (fun w => comparedAt_any (H := H) (aR := aR) (aO := aO) (aP := aP) (nR := nR) (cR := cR) (nO := nO) (cO := cO) (nP := nP) (cP := cP) (b0 := b0) (b1 := b1) (b2 := b2) (b3 := b3) (b4 := b4) (k : Int) w)
      gi_wp2_with fail
      refine ⟨trivial, (callsIn_wide.2 (HC.out _)).mono ?_⟩
      rintro e w2 ⟨rfl, hw2⟩
      obtain ⟨Wh, hWh⟩ : ∃ x, wr.alloc (.cells #[.int .i64 k] 3) = x := ⟨_, rfl⟩
      rw [hWh] at hw2
      have uh : Up wr Wh := by rw [← hWh]; exact (Up.refl wr).alloc _
      have zh : Wh.heap.size = wr.heap.size + 1 := by rw [← hWh]; simp
      have kh : mblk Wh wr.heap.size = some (.cells #[.int .i64 k] 3 (0, 0)) := by rw [← hWh]; exact blk_new _ _ _ rfl
      have u2 : Up Wh w2 := by rw [← hw2]; exact ((Up.refl Wh).alloc _).alloc _
      have kc : mblk w2 (wr.heap.size + 1) = some (.cells (CeC H (.slice aR nR cR) (.slice aO nO cO) (.slice aP nP cP) b0 b1 b2 b3 b4) 79 (0, 0)) := by rw [← hw2, ← zh]; exact blk_keep _ (blk_new Wh (.cells (CeC H (.slice aR nR cR) (.slice aO nO cO) (.slice aP nP cP) b0 b1 b2 b3 b4) 79) _ rfl)
      have kc2 : mblk w2 (wr.heap.size + 1 + 1) = some (.cells #[.int .i64 k] 3 (0, 0)) := by rw [← hw2, ← zh]; exact blk_new (Wh.alloc (.cells (CeC H (.slice aR nR cR) (.slice aO nO cO) (.slice aP nP cP) b0 b1 b2 b3 b4) 79)) (.cells #[.int .i64 k] 3) _ (by simp)
      have z2a : wr.heap.size + 3 ≤ w2.heap.size := by rw [← hw2]; simp; omega
      have z2b : w2.heap.size ≤ wr.heap.size + 3 := by rw [← hw2]; simp; omega
      have uu := uh.trans u2
      have kh2 := u2.blk kh
      have ky2 := uu.blk ky
      have kb2 := uu.blk kb
      have J2 := T.own_up HJ.out hJs uu
      have sm2 := sm.trans (T.Sm.of uu)
      have hDs2 : ∀ d, d ∈ Ds → W.heap.size + 1 ≤ d ∧ d < wr.heap.size ∧ w2.heap[d]? = some (.deferred (some [])) := fun d hd => ⟨(hDs d hd).1, (Array.getElem?_eq_some_iff.1 (hDs d hd).2).1, (Below.block uu d (Array.getElem?_eq_some_iff.1 (hDs d hd).2).1).trans (hDs d hd).2⟩
      have HD := Lib.hid hDs2
      have ZH := Lib.hid zh
      clear hw2 kh u2 ky kb hJs sm hDs hDs2 uh uu zh lb
      gi_wp2_with fail
      rw [ZH.out]
      clear hWh
      refine T.rangeAll (p := fun b => p b ∨ b = w2.heap.size + 1) rfl (enters_of Try.func121 (by kernel_rfl) rfl) (enc := fun x : Int × Int × Int × Int × Int => #[.agg #[.int .i64 x.1, .int .i64 x.2.1, .int .i64 x.2.2.1, .int .i64 x.2.2.2.1, .int .i64 x.2.2.2.2]]) (fun _ => rfl)
        (comparedAt_seq (hr := (k : Int)) HI.out HPS.out sm2 (fun b e => e.elim (HP.out b) (fun e => by have := sm2.2; omega)) (fun e => e.elim (HPQ.out _ (by omega)) (by omega)) kc (fun e => e.elim (HPQ.out _ (by omega)) (by omega)) kc2) (.inr rfl) (fun e => e.elim (HPQ.out _ (by omega)) (by omega)) (fun b hb e => e.elim (HPQ.out b (by omega)) (by omega))
        (fun pre X => J (T.cmps b0 b1 b2 b3 b4 ps k ++ pre.map (T.cmp k)) X ∧ mblk X W.heap.size = some (.cells #[.func (.yield l) #[] #[]] 165 (0, 0)) ∧ mblk X wr.heap.size = some (.cells #[.int .i64 k] 3 (0, 0)) ∧ mblk X B = some (.cells (CeC H (.slice aR nR cR) (.slice aO nO cO) (.slice aP nP cP) b0 b1 b2 b3 b4) 79 (0, 0)) ∧ T.Sm w0 X ∧ (∀ d, d ∈ Ds → X.heap[d]? = some (.deferred (some []))) ∧ w2.heap.size ≤ X.heap.size) ?hI ⟨by rw [List.map_nil, List.append_nil]; exact J2, ky2, kh2, kb2, sm2, fun d hd => (HD.out d hd).2.2, Nat.le_refl _⟩
        (fun x af X => ∃ Bx, w2.heap.size + 2 ≤ Bx ∧ mblk X Bx = some (.cells #[.int .i64 x.1, .int .i64 x.2.1, .int .i64 x.2.2.1, .int .i64 x.2.2.2.1, .int .i64 x.2.2.2.2] 61 (0, 0)) ∧ af = { tmps := List.toArray ((.func (.yield l) #[] #[] : Value) :: .pointer (some ⟨B, 0, none⟩) :: .pointer (some ⟨W.heap.size, 0, none⟩) :: .pointer (some ⟨wr.heap.size, 0, none⟩) :: .pointer (some ⟨Bx, 0, none⟩) :: .pointer (some ⟨B, 0, none⟩) :: .pointer (some ⟨B, 0, none⟩) :: .int .i64 H :: .int .i64 (H + 1) :: .int .i64 k :: .bool true :: .int .i64 k :: (CeV H (.slice aR nR cR) (.slice aO nO cO) (.slice aP nP cP) b0 b1 b2 b3 b4) :: .int .i64 k :: .func (.func 121) #[] #[.pointer (some ⟨wr.heap.size + 1, 0, none⟩), .pointer (some ⟨wr.heap.size + 1 + 1, 0, none⟩)] :: .agg #[.int .i64 x.1, .int .i64 x.2.1, .int .i64 x.2.2.1, .int .i64 x.2.2.2.1, .int .i64 x.2.2.2.2] :: undef :: undef :: undef :: undef :: undef :: undef :: undef :: undef :: undef :: undef :: undef :: undef :: undef :: undef :: u30 :: []), defers := [] }) ?hAx ?assign ?body ?done
      case hI =>
        rintro pre X Y row ⟨h1, h2, h3, h4, h5, h6, h7⟩ hg hr
        have kp : ∀ b, b < w2.heap.size → Y.heap[b]? = X.heap[b]? := fun b hb => hg.block b (by omega) (fun e => by have := (hr b e.symm).1; omega)
        exact ⟨HJ.out _ X Y row h1 hg (fun r e => ⟨by have := (hr r e).1; omega, (hr r e).2⟩), (kp _ (by omega)).trans h2, (kp _ (by omega)).trans h3, (kp _ (blk_lt kb2)).trans h4,
          ⟨fun b o hb hc => (kp b (by have := (Array.getElem?_eq_some_iff.1 hb).1; have := sm2.2; omega)).trans (h5.1 b o hb hc), Nat.le_trans h5.2 hg.size⟩, fun d hd => (kp d (by have := (HD.out d hd).2.1; omega)).trans (h6 d hd), Nat.le_trans h7 hg.size⟩
      case hAx =>
        rintro x af _ X Y row ⟨Bx, h1, h2, h3⟩ hg hr
        exact ⟨Bx, h1, (hg.block Bx (blk_lt h2) (fun e => by obtain ⟨_, o, ho, hc⟩ := hr Bx e.symm; rw [show X.heap[Bx]? = _ from h2] at ho; cases ho; simp [T.book] at hc)).trans h2, h3⟩
      case assign =>
        rintro pre x X K' _ _ hX hK'
        gi_wp2
        exact hK' _ _ ((Up.refl X).alloc _) ⟨X.heap.size, hX, blk_new _ _ _ rfl, rfl⟩
      case body =>
        rintro pre ⟨ph, pa, pb, lo, hi⟩ af X hpre ⟨h1, h2, h3, h4, h5, h6, h7⟩ ⟨Bx, x1, x2, rfl⟩ hz ⟨r, hr⟩
        have lx := blk_lt x2
        have hmem : (ph, pa, pb, lo, hi) ∈ ps := by
          obtain ⟨t, ht⟩ := hpre
          have hm2 : (ph, pa, pb, lo, hi) ∈ ps.filter (T.isAt b0 b1 b2 b3 b4 k) := by rw [← ht]; simp
          exact (List.mem_filter.1 hm2).1
        have hb := HPS.out _ hmem
        simp only at hb x2
        obtain ⟨hb1, hb2, hb3, hb4⟩ := hb
        have HPR := Lib.hid (show (T.cmps b0 b1 b2 b3 b4 ps k ++ pre.map (T.cmp k)) ++ [T.cmp k (ph, pa, pb, lo, hi)] <+: T.cmps b0 b1 b2 b3 b4 ps (H + 1) by
          have q := T.cmps_pre (b0 := b0) (b1 := b1) (b2 := b2) (b3 := b3) (b4 := b4) hlt hpre
          rw [List.map_append, ← List.append_assoc] at q
          exact q)
        have HMA := Lib.hid (show (T.cmps b0 b1 b2 b3 b4 ps k ++ pre.map (T.cmp k)) ++ [T.cmp k (ph, pa, pb, lo, hi)] = T.cmps b0 b1 b2 b3 b4 ps k ++ (pre ++ [(ph, pa, pb, lo, hi)]).map (T.cmp k) by rw [List.map_append, List.append_assoc]; rfl)
        have HA1 := Lib.hid (fun w => at_clock pa (k : Int) w (by omega))
        have HA2 := Lib.hid (fun w => at_any pb (k : Int) w)
        have HCM := Lib.hid (show T.cmp k (ph, pa, pb, lo, hi) = (pa, (k : Int), pb, T.hr pb k, lo, hi) from rfl)
        generalize T.hr pb (k : Int) = hq at *
        clear hpre hmem
        gi_wp2_with fail
        refine wpIn_nrm ?_
        refine regionG (fun w' => (J (T.cmps b0 b1 b2 b3 b4 ps k ++ pre.map (T.cmp k)) w' ∧ Up X w') ∧ mblk w' W.heap.size = some (.cells #[.func (.yield l) #[] #[]] 165 (0, 0)) ∧ mblk w' wr.heap.size = some (.cells #[.int .i64 k] 3 (0, 0)) ∧ mblk w' Bx = some (.cells #[.int .i64 ph, .int .i64 pa, .int .i64 pb, .int .i64 lo, .int .i64 hi] 61 (0, 0))) 12 (by kernel_rfl) ⟨⟨T.own_up HJ.out h1 (Up.refl X).drew, (Up.refl X).drew⟩, by rw [blk_drew]; exact h2, by rw [blk_drew]; exact h3, by rw [blk_drew]; exact x2⟩ (fun hHeld hCl => ?_)
        refine takeG (i := 0) (d := (some 16)) (v := ?v8) rfl rfl (by kernel_rfl) (by kernel_rfl) (by decide) hCl (by kernel_rfl) (by kernel_rfl) (by kernel_rfl) (fun _ _ _ h => h) (by rfl) ?hy8 (fun _ _ _ => trivial) (by assumption) (fun hCl' => ?_)
        case hy8 => ((intro w hSw; (try dsimp only at hSw); (try go_split_ands); go_simp); try with_reducible rfl)
        simp only [Act.put, List.setIfInBounds_toArray, List.set_cons_zero, List.set_cons_succ]
        replace hCl := hCl'; clear hCl'
        refine takeG (i := 1) (d := (some 17)) (v := ?v9) rfl rfl (by kernel_rfl) (by kernel_rfl) (by decide) hCl (by kernel_rfl) (by kernel_rfl) (by kernel_rfl) (fun _ _ _ h => h) (by rfl) ?hy9 (fun _ _ _ => trivial) (by assumption) (fun hCl' => ?_)
        case hy9 => ((intro w hSw; (try dsimp only at hSw); (try go_split_ands); go_simp); try with_reducible rfl)
        simp only [Act.put, List.setIfInBounds_toArray, List.set_cons_zero, List.set_cons_succ]
        replace hCl := hCl'; clear hCl'
        refine takeG (i := 3) (d := (some 19)) (v := ?v10) rfl rfl (by kernel_rfl) (by kernel_rfl) (by decide) hCl (by kernel_rfl) (by kernel_rfl) (by kernel_rfl) (fun _ _ _ h => h) (by rfl) ?hy10 (fun _ _ _ => trivial) (by assumption) (fun hCl' => ?_)
        case hy10 => ((intro w hSw; (try dsimp only at hSw); (try go_split_ands); go_simp); try with_reducible rfl)
        simp only [Act.put, List.setIfInBounds_toArray, List.set_cons_zero, List.set_cons_succ]
        replace hCl := hCl'; clear hCl'
        refine takeG (i := 5) (d := (some 21)) (v := ?v11) rfl rfl (by kernel_rfl) (by kernel_rfl) (by decide) hCl (by kernel_rfl) (by kernel_rfl) (by kernel_rfl) (fun _ _ _ h => h) (by rfl) ?hy11 (fun _ _ _ => trivial) (by assumption) (fun hCl' => ?_)
        case hy11 => ((intro w hSw; (try dsimp only at hSw); (try go_split_ands); go_simp); try with_reducible rfl)
        simp only [Act.put, List.setIfInBounds_toArray, List.set_cons_zero, List.set_cons_succ]
        replace hCl := hCl'; clear hCl'
        refine takeG (i := 7) (d := (some 23)) (v := ?v12) rfl rfl (by kernel_rfl) (by kernel_rfl) (by decide) hCl (by kernel_rfl) (by kernel_rfl) (by kernel_rfl) (fun _ _ _ h => h) (by rfl) ?hy12 (fun _ _ _ => trivial) (by assumption) (fun hCl' => ?_)
        case hy12 => ((intro w hSw; (try dsimp only at hSw); (try go_split_ands); go_simp); try with_reducible rfl)
        simp only [Act.put, List.setIfInBounds_toArray, List.set_cons_zero, List.set_cons_succ]
        replace hCl := hCl'; clear hCl'
        refine takeG (i := 9) (d := (some 25)) (v := ?v13) rfl rfl (by kernel_rfl) (by kernel_rfl) (by decide) hCl (by kernel_rfl) (by kernel_rfl) (by kernel_rfl) (fun _ _ _ h => h) (by rfl) ?hy13 (fun _ _ _ => trivial) (by assumption) (fun hCl' => ?_)
        case hy13 => ((intro w hSw; (try dsimp only at hSw); (try go_split_ands); go_simp); try with_reducible rfl)
        simp only [Act.put, List.setIfInBounds_toArray, List.set_cons_zero, List.set_cons_succ]
        replace hCl := hCl'; clear hCl'
        refine takeG (i := 2) (d := (some 18)) (v := ?v14) rfl rfl (by kernel_rfl) (by kernel_rfl) (by decide) hCl (by kernel_rfl) (by kernel_rfl) (by kernel_rfl) (fun _ _ _ h => h) (by rfl) ?hy14 (fun _ _ _ => trivial) (by assumption) (fun hCl' => ?_)
        case hy14 => ((intro w hSw; (try dsimp only at hSw); (try go_split_ands); go_simp); try with_reducible rfl)
        simp only [Act.put, List.setIfInBounds_toArray, List.set_cons_zero, List.set_cons_succ]
        replace hCl := hCl'; clear hCl'
        refine takeG (i := 6) (d := (some 22)) (v := ?v15) rfl rfl (by kernel_rfl) (by kernel_rfl) (by decide) hCl (by kernel_rfl) (by kernel_rfl) (by kernel_rfl) (fun _ _ _ h => h) (by rfl) ?hy15 (fun _ _ _ => trivial) (by assumption) (fun hCl' => ?_)
        case hy15 => ((intro w hSw; (try dsimp only at hSw); (try go_split_ands); go_simp); try with_reducible rfl)
        simp only [Act.put, List.setIfInBounds_toArray, List.set_cons_zero, List.set_cons_succ]
        replace hCl := hCl'; clear hCl'
        refine takeG (i := 10) (d := (some 26)) (v := ?v16) rfl rfl (by kernel_rfl) (by kernel_rfl) (by decide) hCl (by kernel_rfl) (by kernel_rfl) (by kernel_rfl) (fun _ _ _ h => h) (by rfl) ?hy16 (fun _ _ _ => trivial) (by assumption) (fun hCl' => ?_)
        case hy16 => ((intro w hSw; (try dsimp only at hSw); (try go_split_ands); go_simp); try with_reducible rfl)
        simp only [Act.put, List.setIfInBounds_toArray, List.set_cons_zero, List.set_cons_succ]
        replace hCl := hCl'; clear hCl'
        refine nextG (i := 4) (by kernel_rfl) rfl (by rfl) hCl (fun K hK => ?_)
        go_simp
        refine ⟨trivial, (CallsIn.inRound _ (callsIn_wide.2 (HA1.out _))).mono ?_⟩
        rintro e y1 ⟨rfl, u⟩
        refine hK.out _ _ ⟨⟨T.own_up HJ.out hHeld.1.1 u, hHeld.1.2.trans u⟩, u.blk hHeld.2.1, u.blk hHeld.2.2.1, u.blk hHeld.2.2.2⟩ (fun hHeld hCl => ?_)
        clear hK K u
        try simp only [Act.put, List.setIfInBounds_toArray, List.set_cons_zero, List.set_cons_succ]
        refine nextG (i := 8) (by kernel_rfl) rfl (by rfl) hCl (fun K hK => ?_)
        go_simp
        refine ⟨trivial, (CallsIn.inRound _ (callsIn_wide.2 (HA2.out _))).mono ?_⟩
        rintro e y2 ⟨rfl, u⟩
        refine hK.out _ _ ⟨⟨T.own_up HJ.out hHeld.1.1 u, hHeld.1.2.trans u⟩, u.blk hHeld.2.1, u.blk hHeld.2.2.1, u.blk hHeld.2.2.2⟩ (fun hHeld hCl => ?_)
        clear hK K u
        try simp only [Act.put, List.setIfInBounds_toArray, List.set_cons_zero, List.set_cons_succ]
        refine takeG (i := 11) (d := (some 27)) (v := ?v19) rfl rfl (by kernel_rfl) (by kernel_rfl) (by decide) hCl (by kernel_rfl) (by kernel_rfl) (by kernel_rfl) (fun _ _ _ h => h) (by rfl) ?hy19 (fun _ _ _ => trivial) (by assumption) (fun hCl' => ?_)
        case hy19 => ((intro w hSw; (try dsimp only at hSw); (try go_split_ands); go_simp); try with_reducible rfl)
        simp only [Act.put, List.setIfInBounds_toArray, List.set_cons_zero, List.set_cons_succ]
        replace hCl := hCl'; clear hCl'
        obtain ⟨fn, tmps, assign, body, hy, hRR⟩ := HY.out _ (T.cmp k (ph, pa, pb, lo, hi)) y2 hHeld.1.1 HPR.out
        rw [HCM.out] at hy
        have hy' : (Instr.yield l #[TiV pa k pb hq lo hi]).run Try.prog y2 = .ok (.round l fn tmps assign body) y2 := hy
        have uX := hHeld.1.2
        have yk := hHeld.2.1
        have yh := hHeld.2.2.1
        clear hHeld hCl hy
        refine lastG (i := 12) (by kernel_rfl) rfl (by rfl) (by decide) (fun K hK => ?_)
        go_simp
        refine (T.rnd hRR).mono ?_
        rintro e w5 ⟨rfl, hJ5, hk5⟩
        have q5 : ∀ (b : Nat) (o : Obj), X.heap[b]? = some o → ¬ p b → w5.heap[b]? = some o := fun b o hb hnp => hk5.1 b o ((Below.block uX b (Array.getElem?_eq_some_iff.1 hb).1).trans hb) hnp
        have l5 := hk5.1 W.heap.size _ yk (HPQ.out _ (Nat.le_refl _))
        have h5' := hk5.1 wr.heap.size _ yh (HPQ.out _ (by omega))
        have b5 := q5 B _ h4 hne
        have sm5 := T.Sm.kc (h5.trans (T.Sm.of uX)) HP.out hk5.kc
        have zX := Nat.le_trans uX.size hk5.2
        have ds5 : ∀ d, d ∈ Ds → w5.heap[d]? = some (.deferred (some [])) := fun d hd => q5 d _ (h6 d hd) (HPQ.out d (by have := (HD.out d hd).1; omega))
        rw [HMA.out] at hJ5
        clear hRR hy' yk yh uX hk5 h1 h2 h3 h4 h5 h6 x2
        refine hK.out _ _ ?_
        clear hK K
        refine lastG (i := 13) (by kernel_rfl) rfl (by rfl) (by decide) (fun K hK => ?_)
        go_simp
        refine hK.out _ _ ?_
        clear hK K
        refine doneG (by kernel_rfl) ?_ _
        refine S.nrm_intro ?_
        gi_wp2
        exact ⟨fun b o hb hnp => q5 b o hb (fun e => hnp ⟨.inl e, fun e2 => HPQ.out b (by omega) e⟩), zX, hJ5, l5, h5', b5, sm5, ds5, Nat.le_trans h7 zX⟩
      case done =>
        rintro X ⟨h1, h2, h3, h4, h5, h6, h7⟩ hz hd
        have hJn : J (T.cmps b0 b1 b2 b3 b4 ps (k + 1)) X := by rw [T.cmps_succ]; exact h1
        have zX : W.heap.size + 1 ≤ X.heap.size := by omega
        clear h1
        gi_wp2
        refine Handed.intro (H + 1 - (k + 1)) (by omega) (hJ' _ _ _ ?_)
        refine ⟨_, _, _, _, _, _, _, k + 1, w2.heap.size :: Ds, by omega, rfl, rfl, ⟨List.nodup_cons.2 ⟨fun hm => ?_, hnd⟩, fun d hm => ?_⟩, h2, h4, hJn, h5, zX⟩
        · have := (HD.out _ hm).2.1
          omega
        · rcases List.mem_cons.1 hm with rfl | hm
          · exact ⟨by omega, hd⟩
          · exact ⟨(HD.out d hm).1, h6 d hm⟩
    · obtain rfl : k = H + 1 := by omega
      gi_wp2_with fail
      refine T.leaves_marks (base := W.heap.size) (Jn := J (T.cmps b0 b1 b2 b3 b4 ps (H + 1))) (fun X d hj hd hb => HJ.out.putObj _ hj hb hd rfl) Ds wr hnd (fun d hm => ⟨by have := (hDs d hm).1; omega, (hDs d hm).2⟩) hJs ?_
      exact fun W' hj => ⟨_, results_none rfl _ _ _, ⟨_, rfl⟩, hj⟩
end

end Go.Proofs.Ytcmdaiklkdeanaa
