import Derived.Test.YtcmdaiklkdeanaaKno
/- The contract of newKnown. -/
namespace Go.Proofs.Ytcmdaiklkdeanaa
open Go.RowKit Go.Shelf
attribute [local go_sem] Oper.semAt_some

theorem cell_known {w : World} {b : Nat} {cs : Array Value} (h : mblk w b = some (.cells cs 139 (0, 0))) (j : Nat) : w.cell? ⟨b, j, none⟩ = cs[j]? := cellB h j
theorem cell_source {w : World} {b : Nat} {cs : Array Value} (h : mblk w b = some (.cells cs 152 (0, 0))) (j : Nat) : w.cell? ⟨b, j, none⟩ = cs[j]? := cellB h j
attribute [go_sem] cell_known cell_source
/-- empty maps for some moments -/
def T.Fresh (X : World) (m base : Nat) (pre : List (Int × Int)) (g : Int × Int → Nat) : Prop :=
  T.Out X m pre.length (fun a => if a ∈ pre then some (g a) else none) ∧ (∀ x, x ∈ pre → T.Inn X (g x) 0 (fun _ => none) ∧ base ≤ g x ∧ g x ≠ m ∧ T.in64 x) ∧ (∀ x y, x ∈ pre → y ∈ pre → g x = g y → x = y)
theorem T.Fresh.same {X Y : World} {m base : Nat} {pre : List (Int × Int)} {g : Int × Int → Nat} (h : T.Fresh X m base pre g) (e : ∀ b, b < X.heap.size → (b = m ∨ ∃ x ∈ pre, g x = b) → Y.heap[b]? = X.heap[b]?) : T.Fresh Y m base pre g :=
  ⟨h.1.same (e m h.1.lt (.inl rfl)), fun x hx => ⟨(h.2.1 x hx).1.same (e _ (h.2.1 x hx).1.lt (.inr ⟨x, hx, rfl⟩)), (h.2.1 x hx).2⟩, h.2.2⟩
theorem T.Fresh.more {X Y : World} {m base : Nat} {pre : List (Int × Int)} {g : Int × Int → Nat} (h : T.Fresh X m base pre g) {x : Int × Int} (hx : T.in64 x) (hl : pre.length < 1000) (hb : base ≤ X.heap.size) (hY : Y = X.alloc (.map #[] 0)) : ∃ w', (Instr.mapUpdate 139 (.map (some m)) (MoV x.1 x.2) (.map (some X.heap.size))).run Try.prog Y = .ok () w' ∧ Y.grownBy w' (some m) ∧ ∃ g', T.Fresh w' m base (pre ++ [x]) g' := by
  subst hY
  have u : Up X (X.alloc (.map #[] 0)) := (Up.refl X).alloc _
  obtain ⟨w', hrun, ho, hg⟩ := (h.1.up u).put (by omega) hx X.heap.size
  have lm := h.1.lt
  refine ⟨w', hrun, hg, fun y => if y = x then X.heap.size else g y, ?_, fun y hy => ?_, fun y z hy hz e => ?_⟩
  · rw [List.length_append, List.length_singleton]
    obtain ⟨M, h1, h2, h3⟩ := ho
    refine ⟨M, h1, h2, fun a ha z => ?_⟩
    rw [h3 a ha z]
    unfold T.upd
    by_cases e : a = x
    · subst e; simp
    · by_cases e2 : a ∈ pre
      · simp [e, e2]
      · simp [e, e2]
  · by_cases e : y = x
    · subst e
      simp only [if_true]
      exact ⟨(T.Inn.made X).same (hg.block _ (T.Inn.made X).lt (fun q => by have := Option.some.inj q; omega)), hb, by omega, hx⟩
    · have hp : y ∈ pre := by
        rcases List.mem_append.1 hy with h1 | h1
        · exact h1
        · exact absurd (List.mem_singleton.1 h1) e
      obtain ⟨i1, i2, i3, i4⟩ := h.2.1 y hp
      simp only [if_neg e]
      exact ⟨(i1.up u).same (hg.block _ (i1.up u).lt (fun q => i3 (Option.some.inj q))), i2, i3, i4⟩
  · have mem : ∀ a, a ∈ pre ++ [x] → ¬ a = x → a ∈ pre := fun a ha na => by
      rcases List.mem_append.1 ha with h1 | h1
      · exact h1
      · exact absurd (List.mem_singleton.1 h1) na
    by_cases e1 : y = x
    · by_cases e2 : z = x
      · rw [e1, e2]
      · simp only [if_pos e1, if_neg e2] at e
        have := (h.2.1 z (mem z hz e2)).1.lt
        omega
    · by_cases e2 : z = x
      · simp only [if_neg e1, if_pos e2] at e
        have := (h.2.1 y (mem y hy e1)).1.lt
        omega
      · simp only [if_neg e1, if_neg e2] at e
        exact h.2.2 y z (mem y hy e1) (mem z hz e2) e
theorem T.Fresh.know {X : World} {m base : Nat} {pre : List (Int × Int)} {g : Int × Int → Nat} (h : T.Fresh X m base pre g) (hl : pre.length ≤ 1000) : T.Know X m pre g (fun _ _ => none) 0 :=
  ⟨h.1.mono hl, fun x hx => (h.2.1 x hx).1, fun x hx => (h.2.1 x hx).2.2.1, h.2.2, fun x hx => (h.2.1 x hx).2.2.2⟩

/-- what is known when so many sources have been learned -/
def T.stage (n H : Nat) (rs : List (Int × Int)) (os : List (Int × Int × Int × Int)) (ps : List (Int × Int × Int × Int × Int)) (b0 b1 b2 b3 b4 : Bool) : Nat → T.Kn
  | 0 => fun _ _ => none
  | 1 => T.lrnAll T.joinB (fun _ _ => none) (T.limits n H)
  | 2 => T.lrnAll T.joinB (T.lrnAll T.joinB (fun _ _ => none) (T.limits n H)) (T.rates rs H)
  | 3 => T.lrnAll T.joinA (T.lrnAll T.joinB (T.lrnAll T.joinB (fun _ _ => none) (T.limits n H)) (T.rates rs H)) (T.steps os)
  | _ => T.lrnAll T.joinB (T.lrnAll T.joinA (T.lrnAll T.joinB (T.lrnAll T.joinB (fun _ _ => none) (T.limits n H)) (T.rates rs H)) (T.steps os)) (T.cmps b0 b1 b2 b3 b4 ps (H + 1))
theorem T.Know.other {w w' : World} {m : Nat} {D : List (Int × Int)} {g : Int × Int → Nat} {K : T.Kn} {N : Nat} (h : T.Know w m D g K N) (e : ∀ b, b < w.heap.size → (b = m ∨ ∃ x ∈ D, g x = b) → w'.heap[b]? = w.heap[b]?) : T.Know w' m D g K N :=
  ⟨h.out.same (e m h.out.lt (.inl rfl)), fun x hx => (h.inn x hx).same (e _ (h.inn x hx).lt (.inr ⟨x, hx, rfl⟩)), h.ne, h.inj, h.dom⟩
theorem T.Know.mono {w : World} {m : Nat} {D : List (Int × Int)} {g : Int × Int → Nat} {K : T.Kn} {N N' : Nat} (h : T.Know w m D g K N) (hn : N ≤ N') : T.Know w m D g K N' :=
  ⟨h.out, fun x hx => (h.inn x hx).mono hn, h.ne, h.inj, h.dom⟩

section
variable {H : Nat} {aR aO aP : Option Addr} {nR cR nO cO nP cP : Nat} {b0 b1 b2 b3 b4 : Bool} {rs : List (Int × Int)} {os : List (Int × Int × Int × Int)} {ps : List (Int × Int × Int × Int × Int)}
set_option maxRecDepth 100000 in
set_option maxHeartbeats 4000000 in
theorem newKnown_any {w : World} (hH : H ≤ 12) (hR : nR ≤ 5) (I : Sps w (.slice aR nR cR) rs) (IO : Ops w (.slice aO nO cO) os) (IP : Prs w (.slice aP nP cP) ps)
    (hrs : ∀ s ∈ rs, T.Bs 1000 s) (hos : ∀ x ∈ os, (0 ≤ x.1 ∧ x.1 < nR) ∧ (0 ≤ x.2.1 ∧ x.2.1 < H) ∧ T.Bs 100000 x.2.2) (ho6 : os.length ≤ 6) (hps : ∀ x ∈ ps, (0 ≤ x.2.1 ∧ x.2.1 < nR) ∧ (-1 ≤ x.2.2.1 ∧ x.2.2.1 < nR) ∧ T.Bs 200000 x.2.2.2) (hp14 : ps.length ≤ 14) :
    Calls Try.prog 87 #[CeV H (.slice aR nR cR) (.slice aO nO cO) (.slice aP nP cP) b0 b1 b2 b3 b4] w fun e w' => ∃ m g N, e = .returned (.map (some m)) ∧ T.Know w' m (T.moms nR H) g (T.stage nR H rs os ps b0 b1 b2 b3 b4 4) N ∧ Up w w' := by
  have hmm := @run_makeMap Try.prog
  have hnR := I.len
  have F1 := Lib.hid (T.fit_limits (n := nR) (H := H))
  have F2 := Lib.hid (show T.Fit (T.moms nR H) 1000 (T.rates rs H) by rw [hnR]; exact T.fit_rates hrs)
  have F3 := Lib.hid (T.fit_steps hos)
  have F4 := Lib.hid (T.fit_cmps (b0 := b0) (b1 := b1) (b2 := b2) (b3 := b3) (b4 := b4) (H := H) hps)
  have L1 := Lib.hid (T.limits_len hR hH)
  have L2 := Lib.hid (T.rates_len (rs := rs) (by omega) hH)
  have L3 := Lib.hid (show (T.steps os).length ≤ 4000 by unfold T.steps; rw [List.length_map]; omega)
  have L4 := Lib.hid (show (T.cmps b0 b1 b2 b3 b4 ps (H + 1)).length ≤ 4000 by
    have := T.cmps_len (b0 := b0) (b1 := b1) (b2 := b2) (b3 := b3) (b4 := b4) (ps := ps) (H + 1)
    have := Nat.mul_le_mul (show H + 1 ≤ 13 by omega) hp14
    omega)
  have B0 : T.Bd 200000 (T.stage nR H rs os ps b0 b1 b2 b3 b4 0) := T.bd_none _
  have B1 : T.Bd 200000 (T.stage nR H rs os ps b0 b1 b2 b3 b4 1) := T.lrnAll_B B0 fun t ht => by
    have := (F1.out t ht).2.2
    exact ⟨⟨by have := this.1.1; omega, by have := this.1.2; omega⟩, by have := this.2.1; omega, by have := this.2.2; omega⟩
  have B2 := Lib.hid (show T.Bd 200000 (T.stage nR H rs os ps b0 b1 b2 b3 b4 2) from T.lrnAll_B B1 fun t ht => by
    have := (F2.out t ht).2.2
    exact ⟨⟨by have := this.1.1; omega, by have := this.1.2; omega⟩, by have := this.2.1; omega, by have := this.2.2; omega⟩)
  clear B0 B1
  have hos' := Lib.hid (show ∀ x ∈ os, 0 ≤ x.1 ∧ x.1 ≤ 5 ∧ 0 ≤ x.2.1 ∧ x.2.1 ≤ 12 from fun x hx => by have := hos x hx; omega)
  have hps' := Lib.hid (show ∀ x ∈ ps, 0 ≤ x.2.1 ∧ x.2.1 ≤ 4 ∧ -1 ≤ x.2.2.1 ∧ x.2.2.1 ≤ 4 from fun x hx => by have := hps x hx; omega)
  have hml := T.moms_len hR hH
  have HI := Lib.hid I
  have HIO := Lib.hid IO
  have HIP := Lib.hid IP
  have HNR := Lib.hid hnR
  have HO6 := Lib.hid ho6
  clear hrs hos ho6 hps hp14 I IO IP hnR
  refine (callsIn_wide (n := 5)).1 ?_
  refine callsIn_of_wp_marks Try.func87 rfl trivial ?_ rfl
  simp only [Try.ntmps87, List.size_toArray, List.length_cons, List.length_nil, Nat.reduceAdd, Nat.reduceSub, Array.replicate_succ, Array.replicate_zero, List.push_toArray, List.append_toArray, List.nil_append, List.cons_append]
  gi_wp2_with fail
  obtain ⟨W0, hW0⟩ : ∃ x, ((w.alloc (.cells (CeC H (.slice aR nR cR) (.slice aO nO cO) (.slice aP nP cP) b0 b1 b2 b3 b4) 79)).alloc (.map #[] 0)).alloc (.cells #[.map (some (w.heap.size + 1))] 139) = x := ⟨_, rfl⟩
  have u0 : Up w W0 := by rw [← hW0]; exact (((Up.refl w).alloc _).alloc _).alloc _
  have z0 : W0.heap.size = w.heap.size + 3 := by rw [← hW0]; simp
  have kc : mblk W0 w.heap.size = some (.cells (CeC H (.slice aR nR cR) (.slice aO nO cO) (.slice aP nP cP) b0 b1 b2 b3 b4) 79 (0, 0)) := by rw [← hW0]; exact blk_keep _ (blk_keep _ (blk_new w (.cells (CeC H (.slice aR nR cR) (.slice aO nO cO) (.slice aP nP cP) b0 b1 b2 b3 b4) 79) _ rfl))
  have kk : mblk W0 (w.heap.size + 1 + 1) = some (.cells #[.map (some (w.heap.size + 1))] 139 (0, 0)) := by rw [← hW0]; exact blk_new ((w.alloc (.cells (CeC H (.slice aR nR cR) (.slice aO nO cO) (.slice aP nP cP) b0 b1 b2 b3 b4) 79)).alloc (.map #[] 0)) (.cells #[.map (some (w.heap.size + 1))] 139) _ (by simp)
  have ko : T.Out W0 (w.heap.size + 1) 0 (fun _ => none) := by
    have q := T.Out.made (w.alloc (.cells (CeC H (.slice aR nR cR) (.slice aO nO cO) (.slice aP nP cP) b0 b1 b2 b3 b4) 79))
    rw [World.size_alloc] at q
    rw [← hW0]
    exact q.up ((Up.refl _).alloc _)
  rw [hW0]
  clear hW0
  refine ⟨trivial, (callsIn_wide.2 (moments_any _)).mono ?_⟩
  rintro e w2 ⟨rfl, hw2⟩
  have u2 : Up W0 w2 := by rw [← hw2]; exact (Up.refl W0).alloc _
  have z2a : w.heap.size + 4 ≤ w2.heap.size := by rw [← hw2]; simp; omega
  have z2b : w2.heap.size ≤ w.heap.size + 4 := by rw [← hw2]; simp; omega
  have ki : mblk w2 (w.heap.size + 3) = some (.cells (CeC H (.slice aR nR cR) (.slice aO nO cO) (.slice aP nP cP) b0 b1 b2 b3 b4) 79 (0, 0)) := by rw [← hw2, ← z0]; exact blk_new W0 (.cells (CeC H (.slice aR nR cR) (.slice aO nO cO) (.slice aP nP cP) b0 b1 b2 b3 b4) 79) _ rfl
  have uw := u0.trans u2
  replace kc := u2.blk kc
  replace kk := u2.blk kk
  replace ko := ko.up u2
  have ZH := Lib.hid z0
  have F0 : T.Fresh w2 (w.heap.size + 1) (w.heap.size + 3) [] (fun _ => 0) := ⟨(by obtain ⟨M, h1, h2, h3⟩ := ko; exact ⟨M, h1, h2, fun x hx z => by rw [h3 x hx z]; simp⟩), (fun x hx => by cases hx), (fun x y hx => by cases hx)⟩
  clear hw2 u2 z0 u0 ko
  gi_wp2_with fail
  rw [ZH.out]
  clear ZH
  refine T.rangeAll (p := fun b => b = w.heap.size + 1 ∨ b = w2.heap.size + 1) rfl (enters_of Try.func98 (by kernel_rfl) rfl) (enc := fun x : Int × Int => #[MoV x.1 x.2]) (fun _ => rfl)
    (moments_seq hH hR (fun e => by omega) ki) (.inr rfl) (fun e => by omega) (fun b hb e => by omega)
    (fun pre X => (∃ g, T.Fresh X (w.heap.size + 1) (w.heap.size + 3) pre g) ∧ mblk X (w.heap.size + 1 + 1) = some (.cells #[.map (some (w.heap.size + 1))] 139 (0, 0)) ∧ mblk X w.heap.size = some (.cells (CeC H (.slice aR nR cR) (.slice aO nO cO) (.slice aP nP cP) b0 b1 b2 b3 b4) 79 (0, 0)) ∧ Up w X ∧ w2.heap.size ≤ X.heap.size) ?hI ⟨⟨_, F0⟩, kk, kc, uw, Nat.le_refl _⟩
    (fun x af X => ∃ Bx, w2.heap.size + 2 ≤ Bx ∧ mblk X Bx = some (.cells #[.int .i64 x.1, .int .i64 x.2] 100 (0, 0)) ∧ af = { tmps := List.toArray ((CeV H (.slice aR nR cR) (.slice aO nO cO) (.slice aP nP cP) b0 b1 b2 b3 b4 : Value) :: .pointer (some ⟨w.heap.size, 0, none⟩) :: .map none :: .pointer (some ⟨w.heap.size + 1 + 1, 0, none⟩) :: .pointer (some ⟨Bx, 0, none⟩) :: undef :: undef :: undef :: .map (some (w.heap.size + 1)) :: CeV H (.slice aR nR cR) (.slice aO nO cO) (.slice aP nP cP) b0 b1 b2 b3 b4 :: .func (.func 98) #[] #[.pointer (some ⟨w.heap.size + 3, 0, none⟩)] :: MoV x.1 x.2 :: undef :: undef :: undef :: undef :: undef :: undef :: undef :: undef :: undef :: undef :: undef :: undef :: undef :: undef :: undef :: undef :: undef :: undef :: undef :: undef :: undef :: undef :: undef :: undef :: undef :: []), defers := [] }) ?hAx ?assign ?body ?done
  case hI =>
    rintro pre X Y row ⟨⟨g, h1⟩, h2, h3, h4, h5⟩ hg hr
    have kp : ∀ b, b < w2.heap.size → Y.heap[b]? = X.heap[b]? := fun b hb => hg.block b (by omega) (fun e => by have := (hr b e.symm).1; omega)
    exact ⟨⟨g, h1.same fun b hb hc => hg.block b hb fun e => by
      obtain ⟨_, ob, ho, hbk⟩ := hr b e.symm
      rcases hc with rfl | ⟨x, hx, rfl⟩
      · obtain ⟨M, ⟨es, ck, hh, _⟩, _⟩ := h1.1; rw [hh] at ho; cases ho; cases hbk
      · obtain ⟨M, ⟨es, ck, hh, _⟩, _⟩ := (h1.2.1 x hx).1; rw [hh] at ho; cases ho; cases hbk⟩, (kp _ (by omega)).trans h2, (kp _ (by omega)).trans h3, h4.grown hg (fun r e => by have := (hr r e).1; omega), Nat.le_trans h5 hg.size⟩
  case hAx =>
    rintro x af _ X Y row ⟨Bx, h1, h2, h3⟩ hg hr
    exact ⟨Bx, h1, (hg.block Bx (blk_lt h2) (fun e => by obtain ⟨_, o, ho, hc⟩ := hr Bx e.symm; rw [show X.heap[Bx]? = _ from h2] at ho; cases ho; simp [T.book] at hc)).trans h2, h3⟩
  case assign =>
    rintro pre x X K _ _ hX hK
    gi_wp2
    exact hK _ _ ((Up.refl X).alloc _) ⟨X.heap.size, hX, blk_new _ _ _ rfl, rfl⟩
  case body =>
    rintro pre x af X hpre ⟨⟨g, h1⟩, h2, h3, h4, h5⟩ ⟨Bx, x1, x2, rfl⟩ hz ⟨r, hr⟩
    have lx := blk_lt x2
    have hx64 : T.in64 x := by
      obtain ⟨t, ht⟩ := hpre
      have hm : x ∈ T.moms nR H := by rw [← ht]; simp
      obtain ⟨c, h⟩ := x
      rcases T.mem_moms.1 hm with ⟨rfl, rfl⟩ | ⟨⟨q1, q2⟩, q3, q4⟩
      · exact ⟨by show D.in64 (-1); exact ⟨by omega, by omega⟩, by show D.in64 0; exact ⟨by omega, by omega⟩⟩
      · exact ⟨by show D.in64 c; exact ⟨by omega, by omega⟩, by show D.in64 h; exact ⟨by omega, by omega⟩⟩
    have hpl := T.pre_lt hpre
    obtain ⟨Y, hY⟩ : ∃ y, X.alloc (.map #[] 0) = y := ⟨_, rfl⟩
    obtain ⟨w9, hrun, hg9, g', hF'⟩ := h1.more hx64 (by omega) (by omega) hY.symm
    have uY : Up X Y := by rw [← hY]; exact (Up.refl X).alloc _
    have lF := h1.1.lt
    have lb2 := blk_lt h2
    have HG9 := Lib.hid hg9
    have HF9 := Lib.hid hF'
    have hrun2 : (Instr.mapUpdate 139 (.map (some (w.heap.size + 1))) (.agg #[.int .i64 x.1, .int .i64 x.2]) (.map (some X.heap.size))).run Try.prog Y = .ok () w9 := hrun
    clear hrun hg9 hF' h1 hpre hx64 hpl
    gi_wp2
    have hg9 := HG9.out
    have q9 : ∀ b, b < Y.heap.size → b ≠ w.heap.size + 1 → w9.heap[b]? = Y.heap[b]? := fun b hb hne => hg9.block b hb (fun e => hne (Option.some.inj e))
    refine ⟨fun b o hb hnp => ?_, Nat.le_trans uY.size hg9.size, ⟨g', HF9.out⟩, ?_, ?_, (h4.trans uY).grown hg9 (fun k e => by have := Option.some.inj e; omega), Nat.le_trans h5 (Nat.le_trans uY.size hg9.size)⟩
    · have hlb := (Array.getElem?_eq_some_iff.1 hb).1
      have := uY.size
      exact (q9 b (by omega) (fun e => hnp ⟨.inl e, by omega⟩)).trans ((Below.block uY b hlb).trans hb)
    · have := uY.size
      exact (q9 _ (by omega) (by omega)).trans (uY.blk h2)
    · have := uY.size
      exact (q9 _ (by omega) (by omega)).trans (uY.blk h3)
  case done =>
    rintro X ⟨⟨g, h1⟩, h2, h3, h4, h5⟩ hz hd
    have hKn := Lib.hid (h1.know (by omega))
    have hnew := Lib.hid (show ∀ x, x ∈ T.moms nR H → w.heap.size + 3 ≤ g x ∧ g x < X.heap.size from fun x hx => ⟨(h1.2.1 x hx).2.1, (h1.2.1 x hx).1.lt⟩)
    clear h1
    gi_wp2_with fail
    refine ⟨trivial, (callsIn_wide.2 (sources_any _)).mono ?_⟩
    rintro e X1 ⟨rfl, u1⟩
    have l0 := Array.getElem?_eq_some_iff.1 hd
    have d1 := (Below.block u1 _ l0.1).trans hd
    replace h2 := u1.blk h2
    replace h3 := u1.blk h3
    replace h4 := h4.trans u1
    have K1 := Lib.hid (hKn.out.up u1)
    have zX := u1.size
    clear hKn hd l0
    gi_wp2_with fail
    have hne0 : X1.heap[w2.heap.size]? = some (.deferred (some [])) := d1
    refine wpIn_loop_ghost_k (fun gk x wr => ∃ (u6 u17 u18 u19 u20 u21 u22 u35 : Value) (i : Int) (Ds : List Nat), 0 ≤ i ∧ i ≤ 4 ∧ gk = 4 - i.toNat ∧ x = { tmps := List.toArray ((CeV H (.slice aR nR cR) (.slice aO nO cO) (.slice aP nP cP) b0 b1 b2 b3 b4 : Value) :: .pointer (some ⟨w.heap.size, 0, none⟩) :: .map none :: .pointer (some ⟨w.heap.size + 1 + 1, 0, none⟩) :: undef :: undef :: u6 :: undef :: .map (some (w.heap.size + 1)) :: CeV H (.slice aR nR cR) (.slice aO nO cO) (.slice aP nP cP) b0 b1 b2 b3 b4 :: .func (.func 98) #[] #[.pointer (some ⟨w.heap.size + 3, 0, none⟩)] :: undef :: undef :: undef :: undef :: SrV :: .int .i64 i :: u17 :: u18 :: u19 :: u20 :: u21 :: u22 :: undef :: undef :: undef :: undef :: undef :: undef :: undef :: undef :: undef :: undef :: undef :: undef :: u35 :: undef :: []), defers := Ds.map S.mark } ∧
        (Ds.Nodup ∧ ∀ d, d ∈ Ds → w2.heap.size ≤ d ∧ wr.heap[d]? = some (.deferred (some []))) ∧ mblk wr (w.heap.size + 1 + 1) = some (.cells #[.map (some (w.heap.size + 1))] 139 (0, 0)) ∧ mblk wr w.heap.size = some (.cells (CeC H (.slice aR nR cR) (.slice aO nO cO) (.slice aP nP cP) b0 b1 b2 b3 b4) 79 (0, 0)) ∧
        (∃ N, T.Know wr (w.heap.size + 1) (T.moms nR H) g (T.stage nR H rs os ps b0 b1 b2 b3 b4 i.toNat) N ∧ N ≤ i.toNat * 10000) ∧ Up w wr ∧ X1.heap.size ≤ wr.heap.size) 4 ?start ?round
    case start => exact ⟨_, _, _, _, _, _, _, _, 0, [w2.heap.size], by omega, by omega, rfl, rfl, ⟨by simp, fun d hm => by rw [List.mem_singleton] at hm; subst hm; exact ⟨Nat.le_refl _, d1⟩⟩, h2, h3, ⟨0, K1.out, by omega⟩, h4, Nat.le_refl _⟩
    case round =>
      have hnew1 := Lib.hid (show ∀ x, x ∈ T.moms nR H → w.heap.size + 3 ≤ g x ∧ g x < X1.heap.size from fun x hx => ⟨(hnew.out x hx).1, by have := (hnew.out x hx).2; omega⟩)
      have zx1 : w2.heap.size + 2 ≤ X1.heap.size := by omega
      clear h2 h3 K1 h4 d1 hne0 hnew h5 zX u1 hz F0 kk kc uw
      rintro gk x wr ⟨u6, u17, u18, u19, u20, u21, u22, u35, i, Ds, hi0, hi4, rfl, rfl, ⟨hnd, hDs⟩, k2, k3, ⟨N, hKn, hN⟩, hU, hz⟩ J' K hJ' hK'
      have : i = 0 ∨ i = 1 ∨ i = 2 ∨ i = 3 ∨ i = 4 := by omega
      rcases this with rfl | rfl | rfl | rfl | rfl
      · have i0 : ∀ w, (Instr.index 153 SrV (.int .i64 0)).run Try.prog w = .ok (.agg #[.func (.func 107) #[] #[], .func (.func 108) #[] #[]]) w := fun _ => by kernel_rfl
        have HC := Lib.hid (fun w => limits_any (H := H) (aR := aR) (aO := aO) (aP := aP) (nR := nR) (cR := cR) (nO := nO) (cO := cO) (nP := nP) (cP := cP) (b0 := b0) (b1 := b1) (b2 := b2) (b3 := b3) (b4 := b4) w)
        have lc := blk_lt k3
        gi_wp2_with fail
        refine ⟨trivial, (callsIn_wide.2 (HC.out _)).mono ?_⟩
        rintro e w4 ⟨rfl, hw4⟩
        obtain ⟨Wh, hWh⟩ : ∃ x, wr.alloc (.cells #[.func (.func 107) #[] #[], .func (.func 108) #[] #[]] 152) = x := ⟨_, rfl⟩
        rw [hWh] at hw4
        have uh : Up wr Wh := by rw [← hWh]; exact (Up.refl wr).alloc _
        have zh : Wh.heap.size = wr.heap.size + 1 := by rw [← hWh]; simp
        have ks : mblk Wh wr.heap.size = some (.cells #[.func (.func 107) #[] #[], .func (.func 108) #[] #[]] 152 (0, 0)) := by rw [← hWh]; exact blk_new _ _ _ rfl
        have u4 : Up Wh w4 := by rw [← hw4]; exact (Up.refl Wh).alloc _
        have kb : mblk w4 (wr.heap.size + 1) = some (.cells (CeC H (.slice aR nR cR) (.slice aO nO cO) (.slice aP nP cP) b0 b1 b2 b3 b4) 79 (0, 0)) := by rw [← hw4, ← zh]; exact blk_new Wh (.cells (CeC H (.slice aR nR cR) (.slice aO nO cO) (.slice aP nP cP) b0 b1 b2 b3 b4) 79) _ rfl
        have z4a : wr.heap.size + 2 ≤ w4.heap.size := by rw [← hw4]; simp; omega
        have z4b : w4.heap.size ≤ wr.heap.size + 2 := by rw [← hw4]; simp; omega
        have uu := uh.trans u4
        have ks4 := u4.blk ks
        have k24 := uu.blk k2
        have k34 := uu.blk k3
        have hK4 := Lib.hid (hKn.up uu)
        have hU4 := hU.trans uu
        have HD := Lib.hid (show ∀ d, d ∈ Ds → w2.heap.size ≤ d ∧ d < wr.heap.size ∧ w4.heap[d]? = some (.deferred (some [])) from fun d hd => ⟨(hDs d hd).1, (Array.getElem?_eq_some_iff.1 (hDs d hd).2).1, (Below.block uu d (Array.getElem?_eq_some_iff.1 (hDs d hd).2).1).trans (hDs d hd).2⟩)
        have ZH := Lib.hid zh
        have gne : ∀ x, x ∈ T.moms nR H → g x ≠ w.heap.size + 1 + 1 ∧ g x ≠ w.heap.size ∧ g x ≠ w.heap.size + 1 ∧ g x < wr.heap.size ∧ w.heap.size + 3 ≤ g x := fun x hx => by
          have := hnew1.out x hx
          omega
        have GNE := Lib.hid gne
        clear hw4 ks u4 k2 k3 hKn hU hDs uh uu zh i0 HC lc gne
        gi_wp2_with fail
        rw [ZH.out]
        clear hWh
        refine T.rangeAll (p := fun b => (∃ x ∈ T.moms nR H, g x = b) ∨ b = w4.heap.size + 1) rfl (enters_of Try.func115 (by kernel_rfl) rfl) (enc := fun x : T.T6 => #[T.tv x]) (fun _ => rfl)
          (limits_seq hH hR kb) (.inr rfl) (fun e => e.elim (fun ⟨x, hx, e⟩ => by have := (GNE.out x hx).2.2.2.1; omega) (fun e => by omega)) (fun b hb e => e.elim (fun ⟨x, hx, e⟩ => by have := (GNE.out x hx).2.2.2.1; omega) (fun e => by omega))
          (fun pre X => (∃ N, T.Know X (w.heap.size + 1) (T.moms nR H) g (T.lrnAll T.joinB (T.stage nR H rs os ps b0 b1 b2 b3 b4 0) pre) N ∧ N ≤ 0 * 10000 + 2 * pre.length) ∧ mblk X (w.heap.size + 1 + 1) = some (.cells #[.map (some (w.heap.size + 1))] 139 (0, 0)) ∧ mblk X w.heap.size = some (.cells (CeC H (.slice aR nR cR) (.slice aO nO cO) (.slice aP nP cP) b0 b1 b2 b3 b4) 79 (0, 0)) ∧ mblk X wr.heap.size = some (.cells #[.func (.func 107) #[] #[], .func (.func 108) #[] #[]] 152 (0, 0)) ∧ Up w X ∧ (∀ d, d ∈ Ds → X.heap[d]? = some (.deferred (some []))) ∧ w4.heap.size ≤ X.heap.size) ?hI ⟨⟨N, hK4.out, by simpa using hN⟩, k24, k34, ks4, hU4, fun d hd => (HD.out d hd).2.2, Nat.le_refl _⟩
          (fun x af X => ∃ Bx, w4.heap.size + 2 ≤ Bx ∧ mblk X Bx = some (.cells (TiC x.1 x.2.1 x.2.2.1 x.2.2.2.1 x.2.2.2.2.1 x.2.2.2.2.2) 125 (0, 0)) ∧ af = { tmps := List.toArray ((CeV H (.slice aR nR cR) (.slice aO nO cO) (.slice aP nP cP) b0 b1 b2 b3 b4 : Value) :: .pointer (some ⟨w.heap.size, 0, none⟩) :: .map none :: .pointer (some ⟨w.heap.size + 1 + 1, 0, none⟩) :: undef :: undef :: .pointer (some ⟨wr.heap.size, 0, none⟩) :: .pointer (some ⟨Bx, 0, none⟩) :: .map (some (w.heap.size + 1)) :: CeV H (.slice aR nR cR) (.slice aO nO cO) (.slice aP nP cP) b0 b1 b2 b3 b4 :: .func (.func 98) #[] #[.pointer (some ⟨w.heap.size + 3, 0, none⟩)] :: undef :: undef :: undef :: undef :: SrV :: .int .i64 0 :: .bool true :: .agg #[.func (.func 107) #[] #[], .func (.func 108) #[] #[]] :: .pointer (some ⟨wr.heap.size, 0, none⟩) :: .func (.func 107) #[] #[] :: CeV H (.slice aR nR cR) (.slice aO nO cO) (.slice aP nP cP) b0 b1 b2 b3 b4 :: .func (.func 115) #[] #[.pointer (some ⟨wr.heap.size + 1, 0, none⟩)] :: T.tv x :: undef :: undef :: undef :: undef :: undef :: undef :: undef :: undef :: undef :: undef :: undef :: u35 :: undef :: []), defers := [] }) ?hAx ?assign ?body ?done
        case hI =>
          rintro pre X Y row ⟨⟨N, h1, h1n⟩, h2, h3, h4, h5, h6, h7⟩ hg hr
          have kp : ∀ b, b < w4.heap.size → Y.heap[b]? = X.heap[b]? := fun b hb => hg.block b (by omega) (fun e => by have := (hr b e.symm).1; omega)
          exact ⟨⟨N, h1.other fun b hb hc => kp b (by
            rcases hc with rfl | ⟨x, hx, rfl⟩
            · have := hU4.size; omega
            · have := (GNE.out x hx).2.2.2.1; omega), h1n⟩, (kp _ (by have := hU4.size; omega)).trans h2, (kp _ (by have := hU4.size; omega)).trans h3, (kp _ (by omega)).trans h4, h5.grown hg (fun r e => by have := (hr r e).1; have := hU4.size; omega), fun d hd => (kp d (by have := (HD.out d hd).2.1; omega)).trans (h6 d hd), Nat.le_trans h7 hg.size⟩
        case hAx =>
          rintro x af _ X Y row ⟨Bx, h1, h2, h3⟩ hg hr
          exact ⟨Bx, h1, (hg.block Bx (blk_lt h2) (fun e => by obtain ⟨_, o, ho, hc⟩ := hr Bx e.symm; rw [show X.heap[Bx]? = _ from h2] at ho; cases ho; simp [T.book] at hc)).trans h2, h3⟩
        case assign =>
          rintro pre x X K _ _ hX hK
          gi_wp2
          exact hK _ _ ((Up.refl X).alloc _) ⟨X.heap.size, hX, blk_new _ _ _ rfl, rfl⟩
        case body =>
          rintro pre ⟨c, h, c', h', l, u⟩ af X hpre ⟨⟨N, h1, h1n⟩, h2, h3, h4, h5, h6, h7⟩ ⟨Bx, x1, x2, rfl⟩ hzX ⟨r, hr⟩
          have hmem : (c, h, c', h', l, u) ∈ (T.limits nR H) := by
            obtain ⟨t, ht⟩ := hpre
            rw [← ht]; simp
          obtain ⟨m1, m2, m3⟩ := F1.out _ hmem
          have hm1 : (c, h) ∈ T.moms nR H := m1
          have hm2 : (c', h') ∈ T.moms nR H := m2
          have hm3 : (-200000 ≤ l ∧ l ≤ 200000) ∧ (-200000 ≤ u ∧ u ≤ 200000) := by
            obtain ⟨⟨q1, q2⟩, q3, q4⟩ := m3
            simp only [T.by] at q1 q2 q3 q4
            omega
          have hlen := T.pre_lt hpre
          have hLL := L1.out
          have g1 := GNE.out _ hm1
          have g2 := GNE.out _ hm2
          have ltB := blk_lt x2
          simp only at x2
          have HLA := Lib.hid (show Calls Try.prog 101 #[.map (some (w.heap.size + 1)), TiV c h c' h' l u, .func (.func 108) #[] #[]] X fun e w' => e = .returned (.tuple #[]) ∧ T.Know w' (w.heap.size + 1) (T.moms nR H) g (T.lrn1 T.joinB (T.lrnAll T.joinB (T.stage nR H rs os ps b0 b1 b2 b3 b4 0) pre) (c, h) (c', h') (l, u)) (N + 1) ∧ X.grownBy w' (some (g (c, h))) from learn_B h1 (by omega) (x := (c, h)) (y := (c', h')) (s := (l, u)) hm1 (h1.dom _ hm2))
          have HTT := Lib.hid (fun w => tturned_any c h c' h' l u w (by omega) (by omega) (by omega) (by omega))
          have HLB := Lib.hid (fun (Y : World) (k : T.Know Y (w.heap.size + 1) (T.moms nR H) g (T.lrn1 T.joinB (T.lrnAll T.joinB (T.stage nR H rs os ps b0 b1 b2 b3 b4 0) pre) (c, h) (c', h') (l, u)) (N + 1)) => show Calls Try.prog 101 #[.map (some (w.heap.size + 1)), TiV c' h' c h (-u) (-l), .func (.func 108) #[] #[]] Y fun e w' => e = .returned (.tuple #[]) ∧ T.Know w' (w.heap.size + 1) (T.moms nR H) g (T.lrnAll T.joinB (T.stage nR H rs os ps b0 b1 b2 b3 b4 0) (pre ++ [(c, h, c', h', l, u)])) (N + 1 + 1) ∧ Y.grownBy w' (some (g (c', h'))) from by
            rw [T.lrnAll_snoc]
            exact learn_B k (by omega) (x := (c', h')) (y := (c, h)) (s := (-u, -l)) hm2 (k.dom _ hm1))
          obtain ⟨rl, hrl⟩ : ∃ z, -u = z := ⟨_, rfl⟩
          obtain ⟨ru, hru⟩ : ∃ z, -l = z := ⟨_, rfl⟩
          rw [hrl, hru] at HTT HLB
          have lb2 := blk_lt h2
          have lb4 := blk_lt h4
          have HPP := Lib.hid hpre
          have HH1 := Lib.hid h1
          have HMM := Lib.hid (And.intro hm1 hm2)
          clear hmem m1 m2 m3 hm1 hm2 hpre h1 hm3 hrl hru hLL
          gi_wp2_with fail
          refine ⟨trivial, (CallsIn.inRound _ (callsIn_wide.2 HLA.out)).mono ?_⟩
          rintro e X1 ⟨rfl, K1, q1⟩
          have HK1 := Lib.hid K1
          have HQ1 := Lib.hid q1
          have y2 := (q1.block _ lb2 (fun e => by have := Option.some.inj e; omega)).trans h2
          have y4 := (q1.block _ lb4 (fun e => by have := Option.some.inj e; omega)).trans h4
          have yB := (q1.block _ ltB (fun e => by have := Option.some.inj e; omega)).trans x2
          have zz1 := q1.size
          clear K1 q1 HLA lb2 lb4 ltB
          have hmx : Try.prog.follows .mixedOrders = true := by kernel_rfl
          have HFIN := Lib.hid (show ∀ X2 X3, Up X1 X2 → T.Know X3 (w.heap.size + 1) (T.moms nR H) g (T.lrnAll T.joinB (T.stage nR H rs os ps b0 b1 b2 b3 b4 0) (pre ++ [(c, h, c', h', l, u)])) (N + 1 + 1) → X2.grownBy X3 (some (g (c', h'))) → (∀ (b : Nat) (o : Obj), X.heap[b]? = some o → ¬ (((∃ x, x ∈ T.moms nR H ∧ g x = b) ∨ b = w4.heap.size + 1) ∧ b ≠ w4.heap.size + 1) → X3.heap[b]? = some o) ∧ X.heap.size ≤ X3.heap.size ∧ (∃ N, T.Know X3 (w.heap.size + 1) (T.moms nR H) g (T.lrnAll T.joinB (T.stage nR H rs os ps b0 b1 b2 b3 b4 0) (pre ++ [(c, h, c', h', l, u)])) N ∧ N ≤ 0 * 10000 + 2 * (pre ++ [(c, h, c', h', l, u)]).length) ∧ mblk X3 (w.heap.size + 1 + 1) = some (.cells #[.map (some (w.heap.size + 1))] 139 (0, 0)) ∧ mblk X3 w.heap.size = some (.cells (CeC H (.slice aR nR cR) (.slice aO nO cO) (.slice aP nP cP) b0 b1 b2 b3 b4) 79 (0, 0)) ∧ mblk X3 wr.heap.size = some (.cells #[.func (.func 107) #[] #[], .func (.func 108) #[] #[]] 152 (0, 0)) ∧ Up w X3 ∧ (∀ d, d ∈ Ds → X3.heap[d]? = some (.deferred (some []))) ∧ w4.heap.size ≤ X3.heap.size from fun X2 X3 u2 k3 q3 => by
            have q1 := HQ1.out
            have key : ∀ b o, X.heap[b]? = some o → b ≠ g (c, h) → b ≠ g (c', h') → X3.heap[b]? = some o := fun b o hb e1 e2 => by
              have l := (Array.getElem?_eq_some_iff.1 hb).1
              have a1 := (q1.block b l (fun e => e1 (Option.some.inj e))).trans hb
              have a2 := (Below.block u2 b (by omega)).trans a1
              exact (q3.block b (Array.getElem?_eq_some_iff.1 a2).1 (fun e => e2 (Option.some.inj e))).trans a2
            have s2 := u2.size
            have s3 := q3.size
            refine ⟨fun b o hb hnp => key b o hb (fun e => hnp ⟨.inl ⟨_, HMM.out.1, e.symm⟩, by omega⟩) (fun e => hnp ⟨.inl ⟨_, HMM.out.2, e.symm⟩, by omega⟩), by omega, ⟨N + 1 + 1, k3, by rw [List.length_append, List.length_singleton]; omega⟩, key _ _ h2 (by omega) (by omega), key _ _ h3 (by omega) (by omega), key _ _ h4 (by omega) (by omega), ((h5.grown q1 (fun k e => by have := Option.some.inj e; omega)).trans u2).grown q3 (fun k e => by have := Option.some.inj e; omega), fun d hd => ?_, by omega⟩
            have nd : ∀ y, y ∈ T.moms nR H → d ≠ g y := fun y hy e => by
              obtain ⟨M, ⟨es, ck, hh, _⟩, _⟩ := HH1.out.inn y hy
              have q := h6 d hd
              rw [e, hh] at q
              cases q
            exact key _ _ (h6 d hd) (nd _ HMM.out.1) (nd _ HMM.out.2))
          clear HQ1 HMM HH1 HPP
          gi_wp2_with fail
          have cy2 := cellB y2
          have cy4 := cellB y4
          have cyB := cellB yB
          gi_region_with_o (first
            | (refine ⟨trivial, (CallsIn.inRound _ (callsIn_wide.2 (HTT.out _))).mono ?_⟩; rintro e X2 ⟨rfl, u2'⟩; have u2 : Up X1 X2 := ((Up.refl X1).drew).trans u2'; have t2 := cellB (u2.blk y2); have t4 := cellB (u2.blk y4); have tB := cellB (u2.blk yB))
            | (refine ⟨trivial, (CallsIn.inRound _ (callsIn_wide.2 (HLB.out _ (HK1.out.up u2)))).mono ?_⟩; rintro e X3 ⟨rfl, K3, q3⟩; have HK3 := Lib.hid K3; have HQ3 := Lib.hid q3; clear K3 q3))
          all_goals exact HFIN.out _ _ u2 HK3.out HQ3.out
        case done =>
          rintro X ⟨⟨N, h1, h1n⟩, h2, h3, h4, h5, h6, h7⟩ hzX hd
          have HLL := L1.out
          gi_wp2
          refine Handed.intro (4 - (0 + 1)) (by omega) (hJ' _ _ _ ?_)
          refine ⟨_, _, _, _, _, _, _, _, 1, w4.heap.size :: Ds, by omega, by omega, rfl, rfl, ⟨List.nodup_cons.2 ⟨fun hm => ?_, hnd⟩, fun e he => ?_⟩, h2, h3, ⟨N, (show T.Know X (w.heap.size + 1) (T.moms nR H) g (T.stage nR H rs os ps b0 b1 b2 b3 b4 1) N from h1), by simp; omega⟩, h5, by omega⟩
          · have := (HD.out _ hm).2.1; omega
          · rcases List.mem_cons.1 he with rfl | he
            · exact ⟨by omega, hd⟩
            · exact ⟨(HD.out e he).1, h6 e he⟩
      · have i1 : ∀ w, (Instr.index 153 SrV (.int .i64 1)).run Try.prog w = .ok (.agg #[.func (.func 109) #[] #[], .func (.func 108) #[] #[]]) w := fun _ => by kernel_rfl
        have HC := Lib.hid (fun w => rates_any (H := H) (aR := aR) (aO := aO) (aP := aP) (nR := nR) (cR := cR) (nO := nO) (cO := cO) (nP := nP) (cP := cP) (b0 := b0) (b1 := b1) (b2 := b2) (b3 := b3) (b4 := b4) w)
        have lc := blk_lt k3
        gi_wp2_with fail
        refine ⟨trivial, (callsIn_wide.2 (HC.out _)).mono ?_⟩
        rintro e w4 ⟨rfl, hw4⟩
        obtain ⟨Wh, hWh⟩ : ∃ x, wr.alloc (.cells #[.func (.func 109) #[] #[], .func (.func 108) #[] #[]] 152) = x := ⟨_, rfl⟩
        rw [hWh] at hw4
        have uh : Up wr Wh := by rw [← hWh]; exact (Up.refl wr).alloc _
        have zh : Wh.heap.size = wr.heap.size + 1 := by rw [← hWh]; simp
        have ks : mblk Wh wr.heap.size = some (.cells #[.func (.func 109) #[] #[], .func (.func 108) #[] #[]] 152 (0, 0)) := by rw [← hWh]; exact blk_new _ _ _ rfl
        have u4 : Up Wh w4 := by rw [← hw4]; exact (Up.refl Wh).alloc _
        have kb : mblk w4 (wr.heap.size + 1) = some (.cells (CeC H (.slice aR nR cR) (.slice aO nO cO) (.slice aP nP cP) b0 b1 b2 b3 b4) 79 (0, 0)) := by rw [← hw4, ← zh]; exact blk_new Wh (.cells (CeC H (.slice aR nR cR) (.slice aO nO cO) (.slice aP nP cP) b0 b1 b2 b3 b4) 79) _ rfl
        have z4a : wr.heap.size + 2 ≤ w4.heap.size := by rw [← hw4]; simp; omega
        have z4b : w4.heap.size ≤ wr.heap.size + 2 := by rw [← hw4]; simp; omega
        have uu := uh.trans u4
        have ks4 := u4.blk ks
        have k24 := uu.blk k2
        have k34 := uu.blk k3
        have hK4 := Lib.hid (hKn.up uu)
        have hU4 := hU.trans uu
        have HD := Lib.hid (show ∀ d, d ∈ Ds → w2.heap.size ≤ d ∧ d < wr.heap.size ∧ w4.heap[d]? = some (.deferred (some [])) from fun d hd => ⟨(hDs d hd).1, (Array.getElem?_eq_some_iff.1 (hDs d hd).2).1, (Below.block uu d (Array.getElem?_eq_some_iff.1 (hDs d hd).2).1).trans (hDs d hd).2⟩)
        have ZH := Lib.hid zh
        have gne : ∀ x, x ∈ T.moms nR H → g x ≠ w.heap.size + 1 + 1 ∧ g x ≠ w.heap.size ∧ g x ≠ w.heap.size + 1 ∧ g x < wr.heap.size ∧ w.heap.size + 3 ≤ g x := fun x hx => by
          have := hnew1.out x hx
          omega
        have GNE := Lib.hid gne
        clear hw4 ks u4 k2 k3 hKn hU hDs uh uu zh i1 HC lc gne
        gi_wp2_with fail
        rw [ZH.out]
        clear hWh
        refine T.rangeAll (p := fun b => (∃ x ∈ T.moms nR H, g x = b) ∨ b = w4.heap.size + 1) rfl (enters_of Try.func116 (by kernel_rfl) rfl) (enc := fun x : T.T6 => #[T.tv x]) (fun _ => rfl)
          (rates_seq hH hR HI.out (T.Sm.of hU4) (fun b e => e.elim (fun ⟨x, hx, e⟩ => by have := (GNE.out x hx).2.2.2.2; omega) (fun e => by have := hU4.size; omega)) (fun e => e.elim (fun ⟨x, hx, e⟩ => by have := (GNE.out x hx).2.2.2.1; omega) (fun e => by omega)) kb) (.inr rfl) (fun e => e.elim (fun ⟨x, hx, e⟩ => by have := (GNE.out x hx).2.2.2.1; omega) (fun e => by omega)) (fun b hb e => e.elim (fun ⟨x, hx, e⟩ => by have := (GNE.out x hx).2.2.2.1; omega) (fun e => by omega))
          (fun pre X => (∃ N, T.Know X (w.heap.size + 1) (T.moms nR H) g (T.lrnAll T.joinB (T.stage nR H rs os ps b0 b1 b2 b3 b4 1) pre) N ∧ N ≤ 1 * 10000 + 2 * pre.length) ∧ mblk X (w.heap.size + 1 + 1) = some (.cells #[.map (some (w.heap.size + 1))] 139 (0, 0)) ∧ mblk X w.heap.size = some (.cells (CeC H (.slice aR nR cR) (.slice aO nO cO) (.slice aP nP cP) b0 b1 b2 b3 b4) 79 (0, 0)) ∧ mblk X wr.heap.size = some (.cells #[.func (.func 109) #[] #[], .func (.func 108) #[] #[]] 152 (0, 0)) ∧ Up w X ∧ (∀ d, d ∈ Ds → X.heap[d]? = some (.deferred (some []))) ∧ w4.heap.size ≤ X.heap.size) ?hI ⟨⟨N, hK4.out, by simpa using hN⟩, k24, k34, ks4, hU4, fun d hd => (HD.out d hd).2.2, Nat.le_refl _⟩
          (fun x af X => ∃ Bx, w4.heap.size + 2 ≤ Bx ∧ mblk X Bx = some (.cells (TiC x.1 x.2.1 x.2.2.1 x.2.2.2.1 x.2.2.2.2.1 x.2.2.2.2.2) 125 (0, 0)) ∧ af = { tmps := List.toArray ((CeV H (.slice aR nR cR) (.slice aO nO cO) (.slice aP nP cP) b0 b1 b2 b3 b4 : Value) :: .pointer (some ⟨w.heap.size, 0, none⟩) :: .map none :: .pointer (some ⟨w.heap.size + 1 + 1, 0, none⟩) :: undef :: undef :: .pointer (some ⟨wr.heap.size, 0, none⟩) :: .pointer (some ⟨Bx, 0, none⟩) :: .map (some (w.heap.size + 1)) :: CeV H (.slice aR nR cR) (.slice aO nO cO) (.slice aP nP cP) b0 b1 b2 b3 b4 :: .func (.func 98) #[] #[.pointer (some ⟨w.heap.size + 3, 0, none⟩)] :: undef :: undef :: undef :: undef :: SrV :: .int .i64 1 :: .bool true :: .agg #[.func (.func 109) #[] #[], .func (.func 108) #[] #[]] :: .pointer (some ⟨wr.heap.size, 0, none⟩) :: .func (.func 109) #[] #[] :: CeV H (.slice aR nR cR) (.slice aO nO cO) (.slice aP nP cP) b0 b1 b2 b3 b4 :: .func (.func 116) #[] #[.pointer (some ⟨wr.heap.size + 1, 0, none⟩)] :: T.tv x :: undef :: undef :: undef :: undef :: undef :: undef :: undef :: undef :: undef :: undef :: undef :: u35 :: undef :: []), defers := [] }) ?hAx ?assign ?body ?done
        case hI =>
          rintro pre X Y row ⟨⟨N, h1, h1n⟩, h2, h3, h4, h5, h6, h7⟩ hg hr
          have kp : ∀ b, b < w4.heap.size → Y.heap[b]? = X.heap[b]? := fun b hb => hg.block b (by omega) (fun e => by have := (hr b e.symm).1; omega)
          exact ⟨⟨N, h1.other fun b hb hc => kp b (by
            rcases hc with rfl | ⟨x, hx, rfl⟩
            · have := hU4.size; omega
            · have := (GNE.out x hx).2.2.2.1; omega), h1n⟩, (kp _ (by have := hU4.size; omega)).trans h2, (kp _ (by have := hU4.size; omega)).trans h3, (kp _ (by omega)).trans h4, h5.grown hg (fun r e => by have := (hr r e).1; have := hU4.size; omega), fun d hd => (kp d (by have := (HD.out d hd).2.1; omega)).trans (h6 d hd), Nat.le_trans h7 hg.size⟩
        case hAx =>
          rintro x af _ X Y row ⟨Bx, h1, h2, h3⟩ hg hr
          exact ⟨Bx, h1, (hg.block Bx (blk_lt h2) (fun e => by obtain ⟨_, o, ho, hc⟩ := hr Bx e.symm; rw [show X.heap[Bx]? = _ from h2] at ho; cases ho; simp [T.book] at hc)).trans h2, h3⟩
        case assign =>
          rintro pre x X K _ _ hX hK
          gi_wp2
          exact hK _ _ ((Up.refl X).alloc _) ⟨X.heap.size, hX, blk_new _ _ _ rfl, rfl⟩
        case body =>
          rintro pre ⟨c, h, c', h', l, u⟩ af X hpre ⟨⟨N, h1, h1n⟩, h2, h3, h4, h5, h6, h7⟩ ⟨Bx, x1, x2, rfl⟩ hzX ⟨r, hr⟩
          have hmem : (c, h, c', h', l, u) ∈ (T.rates rs H) := by
            obtain ⟨t, ht⟩ := hpre
            rw [← ht]; simp
          obtain ⟨m1, m2, m3⟩ := F2.out _ hmem
          have hm1 : (c, h) ∈ T.moms nR H := m1
          have hm2 : (c', h') ∈ T.moms nR H := m2
          have hm3 : (-200000 ≤ l ∧ l ≤ 200000) ∧ (-200000 ≤ u ∧ u ≤ 200000) := by
            obtain ⟨⟨q1, q2⟩, q3, q4⟩ := m3
            simp only [T.by] at q1 q2 q3 q4
            omega
          have hlen := T.pre_lt hpre
          have hLL := L2.out
          have g1 := GNE.out _ hm1
          have g2 := GNE.out _ hm2
          have ltB := blk_lt x2
          simp only at x2
          have HLA := Lib.hid (show Calls Try.prog 101 #[.map (some (w.heap.size + 1)), TiV c h c' h' l u, .func (.func 108) #[] #[]] X fun e w' => e = .returned (.tuple #[]) ∧ T.Know w' (w.heap.size + 1) (T.moms nR H) g (T.lrn1 T.joinB (T.lrnAll T.joinB (T.stage nR H rs os ps b0 b1 b2 b3 b4 1) pre) (c, h) (c', h') (l, u)) (N + 1) ∧ X.grownBy w' (some (g (c, h))) from learn_B h1 (by omega) (x := (c, h)) (y := (c', h')) (s := (l, u)) hm1 (h1.dom _ hm2))
          have HTT := Lib.hid (fun w => tturned_any c h c' h' l u w (by omega) (by omega) (by omega) (by omega))
          have HLB := Lib.hid (fun (Y : World) (k : T.Know Y (w.heap.size + 1) (T.moms nR H) g (T.lrn1 T.joinB (T.lrnAll T.joinB (T.stage nR H rs os ps b0 b1 b2 b3 b4 1) pre) (c, h) (c', h') (l, u)) (N + 1)) => show Calls Try.prog 101 #[.map (some (w.heap.size + 1)), TiV c' h' c h (-u) (-l), .func (.func 108) #[] #[]] Y fun e w' => e = .returned (.tuple #[]) ∧ T.Know w' (w.heap.size + 1) (T.moms nR H) g (T.lrnAll T.joinB (T.stage nR H rs os ps b0 b1 b2 b3 b4 1) (pre ++ [(c, h, c', h', l, u)])) (N + 1 + 1) ∧ Y.grownBy w' (some (g (c', h'))) from by
            rw [T.lrnAll_snoc]
            exact learn_B k (by omega) (x := (c', h')) (y := (c, h)) (s := (-u, -l)) hm2 (k.dom _ hm1))
          obtain ⟨rl, hrl⟩ : ∃ z, -u = z := ⟨_, rfl⟩
          obtain ⟨ru, hru⟩ : ∃ z, -l = z := ⟨_, rfl⟩
          rw [hrl, hru] at HTT HLB
          have lb2 := blk_lt h2
          have lb4 := blk_lt h4
          have HPP := Lib.hid hpre
          have HH1 := Lib.hid h1
          have HMM := Lib.hid (And.intro hm1 hm2)
          clear hmem m1 m2 m3 hm1 hm2 hpre h1 hm3 hrl hru hLL
          gi_wp2_with fail
          refine ⟨trivial, (CallsIn.inRound _ (callsIn_wide.2 HLA.out)).mono ?_⟩
          rintro e X1 ⟨rfl, K1, q1⟩
          have HK1 := Lib.hid K1
          have HQ1 := Lib.hid q1
          have y2 := (q1.block _ lb2 (fun e => by have := Option.some.inj e; omega)).trans h2
          have y4 := (q1.block _ lb4 (fun e => by have := Option.some.inj e; omega)).trans h4
          have yB := (q1.block _ ltB (fun e => by have := Option.some.inj e; omega)).trans x2
          have zz1 := q1.size
          clear K1 q1 HLA lb2 lb4 ltB
          have hmx : Try.prog.follows .mixedOrders = true := by kernel_rfl
          have HFIN := Lib.hid (show ∀ X2 X3, Up X1 X2 → T.Know X3 (w.heap.size + 1) (T.moms nR H) g (T.lrnAll T.joinB (T.stage nR H rs os ps b0 b1 b2 b3 b4 1) (pre ++ [(c, h, c', h', l, u)])) (N + 1 + 1) → X2.grownBy X3 (some (g (c', h'))) → (∀ (b : Nat) (o : Obj), X.heap[b]? = some o → ¬ (((∃ x, x ∈ T.moms nR H ∧ g x = b) ∨ b = w4.heap.size + 1) ∧ b ≠ w4.heap.size + 1) → X3.heap[b]? = some o) ∧ X.heap.size ≤ X3.heap.size ∧ (∃ N, T.Know X3 (w.heap.size + 1) (T.moms nR H) g (T.lrnAll T.joinB (T.stage nR H rs os ps b0 b1 b2 b3 b4 1) (pre ++ [(c, h, c', h', l, u)])) N ∧ N ≤ 1 * 10000 + 2 * (pre ++ [(c, h, c', h', l, u)]).length) ∧ mblk X3 (w.heap.size + 1 + 1) = some (.cells #[.map (some (w.heap.size + 1))] 139 (0, 0)) ∧ mblk X3 w.heap.size = some (.cells (CeC H (.slice aR nR cR) (.slice aO nO cO) (.slice aP nP cP) b0 b1 b2 b3 b4) 79 (0, 0)) ∧ mblk X3 wr.heap.size = some (.cells #[.func (.func 109) #[] #[], .func (.func 108) #[] #[]] 152 (0, 0)) ∧ Up w X3 ∧ (∀ d, d ∈ Ds → X3.heap[d]? = some (.deferred (some []))) ∧ w4.heap.size ≤ X3.heap.size from fun X2 X3 u2 k3 q3 => by
            have q1 := HQ1.out
            have key : ∀ b o, X.heap[b]? = some o → b ≠ g (c, h) → b ≠ g (c', h') → X3.heap[b]? = some o := fun b o hb e1 e2 => by
              have l := (Array.getElem?_eq_some_iff.1 hb).1
              have a1 := (q1.block b l (fun e => e1 (Option.some.inj e))).trans hb
              have a2 := (Below.block u2 b (by omega)).trans a1
              exact (q3.block b (Array.getElem?_eq_some_iff.1 a2).1 (fun e => e2 (Option.some.inj e))).trans a2
            have s2 := u2.size
            have s3 := q3.size
            refine ⟨fun b o hb hnp => key b o hb (fun e => hnp ⟨.inl ⟨_, HMM.out.1, e.symm⟩, by omega⟩) (fun e => hnp ⟨.inl ⟨_, HMM.out.2, e.symm⟩, by omega⟩), by omega, ⟨N + 1 + 1, k3, by rw [List.length_append, List.length_singleton]; omega⟩, key _ _ h2 (by omega) (by omega), key _ _ h3 (by omega) (by omega), key _ _ h4 (by omega) (by omega), ((h5.grown q1 (fun k e => by have := Option.some.inj e; omega)).trans u2).grown q3 (fun k e => by have := Option.some.inj e; omega), fun d hd => ?_, by omega⟩
            have nd : ∀ y, y ∈ T.moms nR H → d ≠ g y := fun y hy e => by
              obtain ⟨M, ⟨es, ck, hh, _⟩, _⟩ := HH1.out.inn y hy
              have q := h6 d hd
              rw [e, hh] at q
              cases q
            exact key _ _ (h6 d hd) (nd _ HMM.out.1) (nd _ HMM.out.2))
          clear HQ1 HMM HH1 HPP
          gi_wp2_with fail
          have cy2 := cellB y2
          have cy4 := cellB y4
          have cyB := cellB yB
          gi_region_with_o (first
            | (refine ⟨trivial, (CallsIn.inRound _ (callsIn_wide.2 (HTT.out _))).mono ?_⟩; rintro e X2 ⟨rfl, u2'⟩; have u2 : Up X1 X2 := ((Up.refl X1).drew).trans u2'; have t2 := cellB (u2.blk y2); have t4 := cellB (u2.blk y4); have tB := cellB (u2.blk yB))
            | (refine ⟨trivial, (CallsIn.inRound _ (callsIn_wide.2 (HLB.out _ (HK1.out.up u2)))).mono ?_⟩; rintro e X3 ⟨rfl, K3, q3⟩; have HK3 := Lib.hid K3; have HQ3 := Lib.hid q3; clear K3 q3))
          all_goals exact HFIN.out _ _ u2 HK3.out HQ3.out
        case done =>
          rintro X ⟨⟨N, h1, h1n⟩, h2, h3, h4, h5, h6, h7⟩ hzX hd
          have HLL := L2.out
          gi_wp2
          refine Handed.intro (4 - (1 + 1)) (by omega) (hJ' _ _ _ ?_)
          refine ⟨_, _, _, _, _, _, _, _, 2, w4.heap.size :: Ds, by omega, by omega, rfl, rfl, ⟨List.nodup_cons.2 ⟨fun hm => ?_, hnd⟩, fun e he => ?_⟩, h2, h3, ⟨N, (show T.Know X (w.heap.size + 1) (T.moms nR H) g (T.stage nR H rs os ps b0 b1 b2 b3 b4 2) N from h1), by simp; omega⟩, h5, by omega⟩
          · have := (HD.out _ hm).2.1; omega
          · rcases List.mem_cons.1 he with rfl | he
            · exact ⟨by omega, hd⟩
            · exact ⟨(HD.out e he).1, h6 e he⟩
      · have i2 : ∀ w, (Instr.index 153 SrV (.int .i64 2)).run Try.prog w = .ok (.agg #[.func (.func 110) #[] #[], .func (.func 111) #[] #[]]) w := fun _ => by kernel_rfl
        have HC := Lib.hid (fun w => steps_any (H := H) (aR := aR) (aO := aO) (aP := aP) (nR := nR) (cR := cR) (nO := nO) (cO := cO) (nP := nP) (cP := cP) (b0 := b0) (b1 := b1) (b2 := b2) (b3 := b3) (b4 := b4) w)
        have lc := blk_lt k3
        gi_wp2_with fail
        refine ⟨trivial, (callsIn_wide.2 (HC.out _)).mono ?_⟩
        rintro e w4 ⟨rfl, hw4⟩
        obtain ⟨Wh, hWh⟩ : ∃ x, wr.alloc (.cells #[.func (.func 110) #[] #[], .func (.func 111) #[] #[]] 152) = x := ⟨_, rfl⟩
        rw [hWh] at hw4
        have uh : Up wr Wh := by rw [← hWh]; exact (Up.refl wr).alloc _
        have zh : Wh.heap.size = wr.heap.size + 1 := by rw [← hWh]; simp
        have ks : mblk Wh wr.heap.size = some (.cells #[.func (.func 110) #[] #[], .func (.func 111) #[] #[]] 152 (0, 0)) := by rw [← hWh]; exact blk_new _ _ _ rfl
        have u4 : Up Wh w4 := by rw [← hw4]; exact (Up.refl Wh).alloc _
        have kb : mblk w4 (wr.heap.size + 1) = some (.cells (CeC H (.slice aR nR cR) (.slice aO nO cO) (.slice aP nP cP) b0 b1 b2 b3 b4) 79 (0, 0)) := by rw [← hw4, ← zh]; exact blk_new Wh (.cells (CeC H (.slice aR nR cR) (.slice aO nO cO) (.slice aP nP cP) b0 b1 b2 b3 b4) 79) _ rfl
        have z4a : wr.heap.size + 2 ≤ w4.heap.size := by rw [← hw4]; simp; omega
        have z4b : w4.heap.size ≤ wr.heap.size + 2 := by rw [← hw4]; simp; omega
        have uu := uh.trans u4
        have ks4 := u4.blk ks
        have k24 := uu.blk k2
        have k34 := uu.blk k3
        have hK4 := Lib.hid (hKn.up uu)
        have hU4 := hU.trans uu
        have HD := Lib.hid (show ∀ d, d ∈ Ds → w2.heap.size ≤ d ∧ d < wr.heap.size ∧ w4.heap[d]? = some (.deferred (some [])) from fun d hd => ⟨(hDs d hd).1, (Array.getElem?_eq_some_iff.1 (hDs d hd).2).1, (Below.block uu d (Array.getElem?_eq_some_iff.1 (hDs d hd).2).1).trans (hDs d hd).2⟩)
        have ZH := Lib.hid zh
        have gne : ∀ x, x ∈ T.moms nR H → g x ≠ w.heap.size + 1 + 1 ∧ g x ≠ w.heap.size ∧ g x ≠ w.heap.size + 1 ∧ g x < wr.heap.size ∧ w.heap.size + 3 ≤ g x := fun x hx => by
          have := hnew1.out x hx
          omega
        have GNE := Lib.hid gne
        clear hw4 ks u4 k2 k3 hKn hU hDs uh uu zh i2 HC lc gne
        gi_wp2_with fail
        rw [ZH.out]
        clear hWh
        refine T.rangeAll (p := fun b => (∃ x ∈ T.moms nR H, g x = b) ∨ b = w4.heap.size + 1) rfl (enters_of Try.func117 (by kernel_rfl) rfl) (enc := fun x : T.T6 => #[T.tv x]) (fun _ => rfl)
          (steps_seq HIO.out hos'.out (T.Sm.of hU4) (fun b e => e.elim (fun ⟨x, hx, e⟩ => by have := (GNE.out x hx).2.2.2.2; omega) (fun e => by have := hU4.size; omega)) (fun e => e.elim (fun ⟨x, hx, e⟩ => by have := (GNE.out x hx).2.2.2.1; omega) (fun e => by omega)) kb) (.inr rfl) (fun e => e.elim (fun ⟨x, hx, e⟩ => by have := (GNE.out x hx).2.2.2.1; omega) (fun e => by omega)) (fun b hb e => e.elim (fun ⟨x, hx, e⟩ => by have := (GNE.out x hx).2.2.2.1; omega) (fun e => by omega))
          (fun pre X => (∃ N, T.Know X (w.heap.size + 1) (T.moms nR H) g (T.lrnAll T.joinA (T.stage nR H rs os ps b0 b1 b2 b3 b4 2) pre) N ∧ N ≤ 2 * 10000 + 2 * pre.length) ∧ mblk X (w.heap.size + 1 + 1) = some (.cells #[.map (some (w.heap.size + 1))] 139 (0, 0)) ∧ mblk X w.heap.size = some (.cells (CeC H (.slice aR nR cR) (.slice aO nO cO) (.slice aP nP cP) b0 b1 b2 b3 b4) 79 (0, 0)) ∧ mblk X wr.heap.size = some (.cells #[.func (.func 110) #[] #[], .func (.func 111) #[] #[]] 152 (0, 0)) ∧ Up w X ∧ (∀ d, d ∈ Ds → X.heap[d]? = some (.deferred (some []))) ∧ w4.heap.size ≤ X.heap.size) ?hI ⟨⟨N, hK4.out, by simpa using hN⟩, k24, k34, ks4, hU4, fun d hd => (HD.out d hd).2.2, Nat.le_refl _⟩
          (fun x af X => ∃ Bx, w4.heap.size + 2 ≤ Bx ∧ mblk X Bx = some (.cells (TiC x.1 x.2.1 x.2.2.1 x.2.2.2.1 x.2.2.2.2.1 x.2.2.2.2.2) 125 (0, 0)) ∧ af = { tmps := List.toArray ((CeV H (.slice aR nR cR) (.slice aO nO cO) (.slice aP nP cP) b0 b1 b2 b3 b4 : Value) :: .pointer (some ⟨w.heap.size, 0, none⟩) :: .map none :: .pointer (some ⟨w.heap.size + 1 + 1, 0, none⟩) :: undef :: undef :: .pointer (some ⟨wr.heap.size, 0, none⟩) :: .pointer (some ⟨Bx, 0, none⟩) :: .map (some (w.heap.size + 1)) :: CeV H (.slice aR nR cR) (.slice aO nO cO) (.slice aP nP cP) b0 b1 b2 b3 b4 :: .func (.func 98) #[] #[.pointer (some ⟨w.heap.size + 3, 0, none⟩)] :: undef :: undef :: undef :: undef :: SrV :: .int .i64 2 :: .bool true :: .agg #[.func (.func 110) #[] #[], .func (.func 111) #[] #[]] :: .pointer (some ⟨wr.heap.size, 0, none⟩) :: .func (.func 110) #[] #[] :: CeV H (.slice aR nR cR) (.slice aO nO cO) (.slice aP nP cP) b0 b1 b2 b3 b4 :: .func (.func 117) #[] #[.pointer (some ⟨wr.heap.size + 1, 0, none⟩)] :: T.tv x :: undef :: undef :: undef :: undef :: undef :: undef :: undef :: undef :: undef :: undef :: undef :: u35 :: undef :: []), defers := [] }) ?hAx ?assign ?body ?done
        case hI =>
          rintro pre X Y row ⟨⟨N, h1, h1n⟩, h2, h3, h4, h5, h6, h7⟩ hg hr
          have kp : ∀ b, b < w4.heap.size → Y.heap[b]? = X.heap[b]? := fun b hb => hg.block b (by omega) (fun e => by have := (hr b e.symm).1; omega)
          exact ⟨⟨N, h1.other fun b hb hc => kp b (by
            rcases hc with rfl | ⟨x, hx, rfl⟩
            · have := hU4.size; omega
            · have := (GNE.out x hx).2.2.2.1; omega), h1n⟩, (kp _ (by have := hU4.size; omega)).trans h2, (kp _ (by have := hU4.size; omega)).trans h3, (kp _ (by omega)).trans h4, h5.grown hg (fun r e => by have := (hr r e).1; have := hU4.size; omega), fun d hd => (kp d (by have := (HD.out d hd).2.1; omega)).trans (h6 d hd), Nat.le_trans h7 hg.size⟩
        case hAx =>
          rintro x af _ X Y row ⟨Bx, h1, h2, h3⟩ hg hr
          exact ⟨Bx, h1, (hg.block Bx (blk_lt h2) (fun e => by obtain ⟨_, o, ho, hc⟩ := hr Bx e.symm; rw [show X.heap[Bx]? = _ from h2] at ho; cases ho; simp [T.book] at hc)).trans h2, h3⟩
        case assign =>
          rintro pre x X K _ _ hX hK
          gi_wp2
          exact hK _ _ ((Up.refl X).alloc _) ⟨X.heap.size, hX, blk_new _ _ _ rfl, rfl⟩
        case body =>
          rintro pre ⟨c, h, c', h', l, u⟩ af X hpre ⟨⟨N, h1, h1n⟩, h2, h3, h4, h5, h6, h7⟩ ⟨Bx, x1, x2, rfl⟩ hzX ⟨r, hr⟩
          have hmem : (c, h, c', h', l, u) ∈ (T.steps os) := by
            obtain ⟨t, ht⟩ := hpre
            rw [← ht]; simp
          obtain ⟨m1, m2, m3⟩ := F3.out _ hmem
          have hm1 : (c, h) ∈ T.moms nR H := m1
          have hm2 : (c', h') ∈ T.moms nR H := m2
          have hm3 : (-200000 ≤ l ∧ l ≤ 200000) ∧ (-200000 ≤ u ∧ u ≤ 200000) := by
            obtain ⟨⟨q1, q2⟩, q3, q4⟩ := m3
            simp only [T.by] at q1 q2 q3 q4
            omega
          have hlen := T.pre_lt hpre
          have hLL := L3.out
          have g1 := GNE.out _ hm1
          have g2 := GNE.out _ hm2
          have ltB := blk_lt x2
          simp only at x2
          have hBp : T.Bd 5000000 (T.lrnAll T.joinA (T.stage nR H rs os ps b0 b1 b2 b3 b4 2) pre) := (T.lrnAll_A (b := 100000) (by omega) (B := 200000) (by omega) B2.out (fun t ht => (F3.out t (by obtain ⟨t', ht'⟩ := hpre; rw [← ht']; simp [ht])).2.2)).mono (by
            have : (T.steps os).length ≤ 6 := by unfold T.steps; rw [List.length_map]; exact HO6.out
            omega)
          have BS0 : T.Bs 200000 (l, u) := hm3
          have BS1 : (-10000000 ≤ l ∧ l ≤ 10000000) ∧ (-10000000 ≤ u ∧ u ≤ 10000000) := by omega
          have BS2 : (-10000000 ≤ -u ∧ -u ≤ 10000000) ∧ (-10000000 ≤ -l ∧ -l ≤ 10000000) := by omega
          have BD1 : ∀ s0, T.lrnAll T.joinA (T.stage nR H rs os ps b0 b1 b2 b3 b4 2) pre (c, h) (c', h') = some s0 → (-10000000 ≤ s0.1 ∧ s0.1 ≤ 10000000) ∧ (-10000000 ≤ s0.2 ∧ s0.2 ≤ 10000000) := fun s0 e => by
            obtain ⟨⟨q1, q2⟩, q3, q4⟩ := hBp _ _ _ e
            omega
          have BD2 : ∀ s0, T.lrn1 T.joinA (T.lrnAll T.joinA (T.stage nR H rs os ps b0 b1 b2 b3 b4 2) pre) (c, h) (c', h') (l, u) (c', h') (c, h) = some s0 → (-10000000 ≤ s0.1 ∧ s0.1 ≤ 10000000) ∧ (-10000000 ≤ s0.2 ∧ s0.2 ≤ 10000000) := fun s0 e => by
            obtain ⟨⟨q1, q2⟩, q3, q4⟩ := (T.lrn1_A (B := 5000000) (b := 200000) (by omega) (by omega) hBp BS0) _ _ _ e
            omega
          clear hBp BS0
          have HLA := Lib.hid (show Calls Try.prog 101 #[.map (some (w.heap.size + 1)), TiV c h c' h' l u, .func (.func 111) #[] #[]] X fun e w' => e = .returned (.tuple #[]) ∧ T.Know w' (w.heap.size + 1) (T.moms nR H) g (T.lrn1 T.joinA (T.lrnAll T.joinA (T.stage nR H rs os ps b0 b1 b2 b3 b4 2) pre) (c, h) (c', h') (l, u)) (N + 1) ∧ X.grownBy w' (some (g (c, h))) from learn_A h1 (by omega) (x := (c, h)) (y := (c', h')) (s := (l, u)) hm1 (h1.dom _ hm2) BD1 BS1)
          have HTT := Lib.hid (fun w => tturned_any c h c' h' l u w (by omega) (by omega) (by omega) (by omega))
          have HLB := Lib.hid (fun (Y : World) (k : T.Know Y (w.heap.size + 1) (T.moms nR H) g (T.lrn1 T.joinA (T.lrnAll T.joinA (T.stage nR H rs os ps b0 b1 b2 b3 b4 2) pre) (c, h) (c', h') (l, u)) (N + 1)) => show Calls Try.prog 101 #[.map (some (w.heap.size + 1)), TiV c' h' c h (-u) (-l), .func (.func 111) #[] #[]] Y fun e w' => e = .returned (.tuple #[]) ∧ T.Know w' (w.heap.size + 1) (T.moms nR H) g (T.lrnAll T.joinA (T.stage nR H rs os ps b0 b1 b2 b3 b4 2) (pre ++ [(c, h, c', h', l, u)])) (N + 1 + 1) ∧ Y.grownBy w' (some (g (c', h'))) from by
            rw [T.lrnAll_snoc]
            exact learn_A k (by omega) (x := (c', h')) (y := (c, h)) (s := (-u, -l)) hm2 (k.dom _ hm1) BD2 BS2)
          obtain ⟨rl, hrl⟩ : ∃ z, -u = z := ⟨_, rfl⟩
          obtain ⟨ru, hru⟩ : ∃ z, -l = z := ⟨_, rfl⟩
          rw [hrl, hru] at HTT HLB
          have lb2 := blk_lt h2
          have lb4 := blk_lt h4
          have HPP := Lib.hid hpre
          have HH1 := Lib.hid h1
          have HMM := Lib.hid (And.intro hm1 hm2)
          clear hmem m1 m2 m3 hm1 hm2 hpre h1 hm3 hrl hru hLL BD1 BD2 BS1 BS2
          gi_wp2_with fail
          refine ⟨trivial, (CallsIn.inRound _ (callsIn_wide.2 HLA.out)).mono ?_⟩
          rintro e X1 ⟨rfl, K1, q1⟩
          have HK1 := Lib.hid K1
          have HQ1 := Lib.hid q1
          have y2 := (q1.block _ lb2 (fun e => by have := Option.some.inj e; omega)).trans h2
          have y4 := (q1.block _ lb4 (fun e => by have := Option.some.inj e; omega)).trans h4
          have yB := (q1.block _ ltB (fun e => by have := Option.some.inj e; omega)).trans x2
          have zz1 := q1.size
          clear K1 q1 HLA lb2 lb4 ltB
          have hmx : Try.prog.follows .mixedOrders = true := by kernel_rfl
          have HFIN := Lib.hid (show ∀ X2 X3, Up X1 X2 → T.Know X3 (w.heap.size + 1) (T.moms nR H) g (T.lrnAll T.joinA (T.stage nR H rs os ps b0 b1 b2 b3 b4 2) (pre ++ [(c, h, c', h', l, u)])) (N + 1 + 1) → X2.grownBy X3 (some (g (c', h'))) → (∀ (b : Nat) (o : Obj), X.heap[b]? = some o → ¬ (((∃ x, x ∈ T.moms nR H ∧ g x = b) ∨ b = w4.heap.size + 1) ∧ b ≠ w4.heap.size + 1) → X3.heap[b]? = some o) ∧ X.heap.size ≤ X3.heap.size ∧ (∃ N, T.Know X3 (w.heap.size + 1) (T.moms nR H) g (T.lrnAll T.joinA (T.stage nR H rs os ps b0 b1 b2 b3 b4 2) (pre ++ [(c, h, c', h', l, u)])) N ∧ N ≤ 2 * 10000 + 2 * (pre ++ [(c, h, c', h', l, u)]).length) ∧ mblk X3 (w.heap.size + 1 + 1) = some (.cells #[.map (some (w.heap.size + 1))] 139 (0, 0)) ∧ mblk X3 w.heap.size = some (.cells (CeC H (.slice aR nR cR) (.slice aO nO cO) (.slice aP nP cP) b0 b1 b2 b3 b4) 79 (0, 0)) ∧ mblk X3 wr.heap.size = some (.cells #[.func (.func 110) #[] #[], .func (.func 111) #[] #[]] 152 (0, 0)) ∧ Up w X3 ∧ (∀ d, d ∈ Ds → X3.heap[d]? = some (.deferred (some []))) ∧ w4.heap.size ≤ X3.heap.size from fun X2 X3 u2 k3 q3 => by
            have q1 := HQ1.out
            have key : ∀ b o, X.heap[b]? = some o → b ≠ g (c, h) → b ≠ g (c', h') → X3.heap[b]? = some o := fun b o hb e1 e2 => by
              have l := (Array.getElem?_eq_some_iff.1 hb).1
              have a1 := (q1.block b l (fun e => e1 (Option.some.inj e))).trans hb
              have a2 := (Below.block u2 b (by omega)).trans a1
              exact (q3.block b (Array.getElem?_eq_some_iff.1 a2).1 (fun e => e2 (Option.some.inj e))).trans a2
            have s2 := u2.size
            have s3 := q3.size
            refine ⟨fun b o hb hnp => key b o hb (fun e => hnp ⟨.inl ⟨_, HMM.out.1, e.symm⟩, by omega⟩) (fun e => hnp ⟨.inl ⟨_, HMM.out.2, e.symm⟩, by omega⟩), by omega, ⟨N + 1 + 1, k3, by rw [List.length_append, List.length_singleton]; omega⟩, key _ _ h2 (by omega) (by omega), key _ _ h3 (by omega) (by omega), key _ _ h4 (by omega) (by omega), ((h5.grown q1 (fun k e => by have := Option.some.inj e; omega)).trans u2).grown q3 (fun k e => by have := Option.some.inj e; omega), fun d hd => ?_, by omega⟩
            have nd : ∀ y, y ∈ T.moms nR H → d ≠ g y := fun y hy e => by
              obtain ⟨M, ⟨es, ck, hh, _⟩, _⟩ := HH1.out.inn y hy
              have q := h6 d hd
              rw [e, hh] at q
              cases q
            exact key _ _ (h6 d hd) (nd _ HMM.out.1) (nd _ HMM.out.2))
          clear HQ1 HMM HH1 HPP
          gi_wp2_with fail
          have cy2 := cellB y2
          have cy4 := cellB y4
          have cyB := cellB yB
          gi_region_with_o (first
            | (refine ⟨trivial, (CallsIn.inRound _ (callsIn_wide.2 (HTT.out _))).mono ?_⟩; rintro e X2 ⟨rfl, u2'⟩; have u2 : Up X1 X2 := ((Up.refl X1).drew).trans u2'; have t2 := cellB (u2.blk y2); have t4 := cellB (u2.blk y4); have tB := cellB (u2.blk yB))
            | (refine ⟨trivial, (CallsIn.inRound _ (callsIn_wide.2 (HLB.out _ (HK1.out.up u2)))).mono ?_⟩; rintro e X3 ⟨rfl, K3, q3⟩; have HK3 := Lib.hid K3; have HQ3 := Lib.hid q3; clear K3 q3))
          all_goals exact HFIN.out _ _ u2 HK3.out HQ3.out
        case done =>
          rintro X ⟨⟨N, h1, h1n⟩, h2, h3, h4, h5, h6, h7⟩ hzX hd
          have HLL := L3.out
          gi_wp2
          refine Handed.intro (4 - (2 + 1)) (by omega) (hJ' _ _ _ ?_)
          refine ⟨_, _, _, _, _, _, _, _, 3, w4.heap.size :: Ds, by omega, by omega, rfl, rfl, ⟨List.nodup_cons.2 ⟨fun hm => ?_, hnd⟩, fun e he => ?_⟩, h2, h3, ⟨N, (show T.Know X (w.heap.size + 1) (T.moms nR H) g (T.stage nR H rs os ps b0 b1 b2 b3 b4 3) N from h1), by simp; omega⟩, h5, by omega⟩
          · have := (HD.out _ hm).2.1; omega
          · rcases List.mem_cons.1 he with rfl | he
            · exact ⟨by omega, hd⟩
            · exact ⟨(HD.out e he).1, h6 e he⟩
      · have i3 : ∀ w, (Instr.index 153 SrV (.int .i64 3)).run Try.prog w = .ok (.agg #[.func (.func 112) #[] #[], .func (.func 108) #[] #[]]) w := fun _ => by kernel_rfl
        have HC := Lib.hid (fun w => comparisons_any (H := H) (aR := aR) (aO := aO) (aP := aP) (nR := nR) (cR := cR) (nO := nO) (cO := cO) (nP := nP) (cP := cP) (b0 := b0) (b1 := b1) (b2 := b2) (b3 := b3) (b4 := b4) w)
        have lc := blk_lt k3
        gi_wp2_with fail
        refine ⟨trivial, (callsIn_wide.2 (HC.out _)).mono ?_⟩
        rintro e w4 ⟨rfl, hw4⟩
        obtain ⟨Wh, hWh⟩ : ∃ x, wr.alloc (.cells #[.func (.func 112) #[] #[], .func (.func 108) #[] #[]] 152) = x := ⟨_, rfl⟩
        rw [hWh] at hw4
        have uh : Up wr Wh := by rw [← hWh]; exact (Up.refl wr).alloc _
        have zh : Wh.heap.size = wr.heap.size + 1 := by rw [← hWh]; simp
        have ks : mblk Wh wr.heap.size = some (.cells #[.func (.func 112) #[] #[], .func (.func 108) #[] #[]] 152 (0, 0)) := by rw [← hWh]; exact blk_new _ _ _ rfl
        have u4 : Up Wh w4 := by rw [← hw4]; exact (Up.refl Wh).alloc _
        have kb : mblk w4 (wr.heap.size + 1) = some (.cells (CeC H (.slice aR nR cR) (.slice aO nO cO) (.slice aP nP cP) b0 b1 b2 b3 b4) 79 (0, 0)) := by rw [← hw4, ← zh]; exact blk_new Wh (.cells (CeC H (.slice aR nR cR) (.slice aO nO cO) (.slice aP nP cP) b0 b1 b2 b3 b4) 79) _ rfl
        have z4a : wr.heap.size + 2 ≤ w4.heap.size := by rw [← hw4]; simp; omega
        have z4b : w4.heap.size ≤ wr.heap.size + 2 := by rw [← hw4]; simp; omega
        have uu := uh.trans u4
        have ks4 := u4.blk ks
        have k24 := uu.blk k2
        have k34 := uu.blk k3
        have hK4 := Lib.hid (hKn.up uu)
        have hU4 := hU.trans uu
        have HD := Lib.hid (show ∀ d, d ∈ Ds → w2.heap.size ≤ d ∧ d < wr.heap.size ∧ w4.heap[d]? = some (.deferred (some [])) from fun d hd => ⟨(hDs d hd).1, (Array.getElem?_eq_some_iff.1 (hDs d hd).2).1, (Below.block uu d (Array.getElem?_eq_some_iff.1 (hDs d hd).2).1).trans (hDs d hd).2⟩)
        have ZH := Lib.hid zh
        have gne : ∀ x, x ∈ T.moms nR H → g x ≠ w.heap.size + 1 + 1 ∧ g x ≠ w.heap.size ∧ g x ≠ w.heap.size + 1 ∧ g x < wr.heap.size ∧ w.heap.size + 3 ≤ g x := fun x hx => by
          have := hnew1.out x hx
          omega
        have GNE := Lib.hid gne
        clear hw4 ks u4 k2 k3 hKn hU hDs uh uu zh i3 HC lc gne
        gi_wp2_with fail
        rw [ZH.out]
        clear hWh
        refine T.rangeAll (p := fun b => (∃ x ∈ T.moms nR H, g x = b) ∨ b = w4.heap.size + 1) rfl (enters_of Try.func119 (by kernel_rfl) rfl) (enc := fun x : T.T6 => #[T.tv x]) (fun _ => rfl)
          (comparisons_seq HIP.out hps'.out hH (T.Sm.of hU4) (fun b e => e.elim (fun ⟨x, hx, e⟩ => by have := (GNE.out x hx).2.2.2.2; omega) (fun e => by have := hU4.size; omega)) (fun e => e.elim (fun ⟨x, hx, e⟩ => by have := (GNE.out x hx).2.2.2.1; omega) (fun e => by omega)) kb) (.inr rfl) (fun e => e.elim (fun ⟨x, hx, e⟩ => by have := (GNE.out x hx).2.2.2.1; omega) (fun e => by omega)) (fun b hb e => e.elim (fun ⟨x, hx, e⟩ => by have := (GNE.out x hx).2.2.2.1; omega) (fun e => by omega))
          (fun pre X => (∃ N, T.Know X (w.heap.size + 1) (T.moms nR H) g (T.lrnAll T.joinB (T.stage nR H rs os ps b0 b1 b2 b3 b4 3) pre) N ∧ N ≤ 3 * 10000 + 2 * pre.length) ∧ mblk X (w.heap.size + 1 + 1) = some (.cells #[.map (some (w.heap.size + 1))] 139 (0, 0)) ∧ mblk X w.heap.size = some (.cells (CeC H (.slice aR nR cR) (.slice aO nO cO) (.slice aP nP cP) b0 b1 b2 b3 b4) 79 (0, 0)) ∧ mblk X wr.heap.size = some (.cells #[.func (.func 112) #[] #[], .func (.func 108) #[] #[]] 152 (0, 0)) ∧ Up w X ∧ (∀ d, d ∈ Ds → X.heap[d]? = some (.deferred (some []))) ∧ w4.heap.size ≤ X.heap.size) ?hI ⟨⟨N, hK4.out, by simpa using hN⟩, k24, k34, ks4, hU4, fun d hd => (HD.out d hd).2.2, Nat.le_refl _⟩
          (fun x af X => ∃ Bx, w4.heap.size + 2 ≤ Bx ∧ mblk X Bx = some (.cells (TiC x.1 x.2.1 x.2.2.1 x.2.2.2.1 x.2.2.2.2.1 x.2.2.2.2.2) 125 (0, 0)) ∧ af = { tmps := List.toArray ((CeV H (.slice aR nR cR) (.slice aO nO cO) (.slice aP nP cP) b0 b1 b2 b3 b4 : Value) :: .pointer (some ⟨w.heap.size, 0, none⟩) :: .map none :: .pointer (some ⟨w.heap.size + 1 + 1, 0, none⟩) :: undef :: undef :: .pointer (some ⟨wr.heap.size, 0, none⟩) :: .pointer (some ⟨Bx, 0, none⟩) :: .map (some (w.heap.size + 1)) :: CeV H (.slice aR nR cR) (.slice aO nO cO) (.slice aP nP cP) b0 b1 b2 b3 b4 :: .func (.func 98) #[] #[.pointer (some ⟨w.heap.size + 3, 0, none⟩)] :: undef :: undef :: undef :: undef :: SrV :: .int .i64 3 :: .bool true :: .agg #[.func (.func 112) #[] #[], .func (.func 108) #[] #[]] :: .pointer (some ⟨wr.heap.size, 0, none⟩) :: .func (.func 112) #[] #[] :: CeV H (.slice aR nR cR) (.slice aO nO cO) (.slice aP nP cP) b0 b1 b2 b3 b4 :: .func (.func 119) #[] #[.pointer (some ⟨wr.heap.size + 1, 0, none⟩)] :: T.tv x :: undef :: undef :: undef :: undef :: undef :: undef :: undef :: undef :: undef :: undef :: undef :: u35 :: undef :: []), defers := [] }) ?hAx ?assign ?body ?done
        case hI =>
          rintro pre X Y row ⟨⟨N, h1, h1n⟩, h2, h3, h4, h5, h6, h7⟩ hg hr
          have kp : ∀ b, b < w4.heap.size → Y.heap[b]? = X.heap[b]? := fun b hb => hg.block b (by omega) (fun e => by have := (hr b e.symm).1; omega)
          exact ⟨⟨N, h1.other fun b hb hc => kp b (by
            rcases hc with rfl | ⟨x, hx, rfl⟩
            · have := hU4.size; omega
            · have := (GNE.out x hx).2.2.2.1; omega), h1n⟩, (kp _ (by have := hU4.size; omega)).trans h2, (kp _ (by have := hU4.size; omega)).trans h3, (kp _ (by omega)).trans h4, h5.grown hg (fun r e => by have := (hr r e).1; have := hU4.size; omega), fun d hd => (kp d (by have := (HD.out d hd).2.1; omega)).trans (h6 d hd), Nat.le_trans h7 hg.size⟩
        case hAx =>
          rintro x af _ X Y row ⟨Bx, h1, h2, h3⟩ hg hr
          exact ⟨Bx, h1, (hg.block Bx (blk_lt h2) (fun e => by obtain ⟨_, o, ho, hc⟩ := hr Bx e.symm; rw [show X.heap[Bx]? = _ from h2] at ho; cases ho; simp [T.book] at hc)).trans h2, h3⟩
        case assign =>
          rintro pre x X K _ _ hX hK
          gi_wp2
          exact hK _ _ ((Up.refl X).alloc _) ⟨X.heap.size, hX, blk_new _ _ _ rfl, rfl⟩
        case body =>
          rintro pre ⟨c, h, c', h', l, u⟩ af X hpre ⟨⟨N, h1, h1n⟩, h2, h3, h4, h5, h6, h7⟩ ⟨Bx, x1, x2, rfl⟩ hzX ⟨r, hr⟩
          have hmem : (c, h, c', h', l, u) ∈ (T.cmps b0 b1 b2 b3 b4 ps (H + 1)) := by
            obtain ⟨t, ht⟩ := hpre
            rw [← ht]; simp
          obtain ⟨m1, m2, m3⟩ := F4.out _ hmem
          have hm1 : (c, h) ∈ T.moms nR H := m1
          have hm2 : (c', h') ∈ T.moms nR H := m2
          have hm3 : (-200000 ≤ l ∧ l ≤ 200000) ∧ (-200000 ≤ u ∧ u ≤ 200000) := by
            obtain ⟨⟨q1, q2⟩, q3, q4⟩ := m3
            simp only [T.by] at q1 q2 q3 q4
            omega
          have hlen := T.pre_lt hpre
          have hLL := L4.out
          have g1 := GNE.out _ hm1
          have g2 := GNE.out _ hm2
          have ltB := blk_lt x2
          simp only at x2
          have HLA := Lib.hid (show Calls Try.prog 101 #[.map (some (w.heap.size + 1)), TiV c h c' h' l u, .func (.func 108) #[] #[]] X fun e w' => e = .returned (.tuple #[]) ∧ T.Know w' (w.heap.size + 1) (T.moms nR H) g (T.lrn1 T.joinB (T.lrnAll T.joinB (T.stage nR H rs os ps b0 b1 b2 b3 b4 3) pre) (c, h) (c', h') (l, u)) (N + 1) ∧ X.grownBy w' (some (g (c, h))) from learn_B h1 (by omega) (x := (c, h)) (y := (c', h')) (s := (l, u)) hm1 (h1.dom _ hm2))
          have HTT := Lib.hid (fun w => tturned_any c h c' h' l u w (by omega) (by omega) (by omega) (by omega))
          have HLB := Lib.hid (fun (Y : World) (k : T.Know Y (w.heap.size + 1) (T.moms nR H) g (T.lrn1 T.joinB (T.lrnAll T.joinB (T.stage nR H rs os ps b0 b1 b2 b3 b4 3) pre) (c, h) (c', h') (l, u)) (N + 1)) => show Calls Try.prog 101 #[.map (some (w.heap.size + 1)), TiV c' h' c h (-u) (-l), .func (.func 108) #[] #[]] Y fun e w' => e = .returned (.tuple #[]) ∧ T.Know w' (w.heap.size + 1) (T.moms nR H) g (T.lrnAll T.joinB (T.stage nR H rs os ps b0 b1 b2 b3 b4 3) (pre ++ [(c, h, c', h', l, u)])) (N + 1 + 1) ∧ Y.grownBy w' (some (g (c', h'))) from by
            rw [T.lrnAll_snoc]
            exact learn_B k (by omega) (x := (c', h')) (y := (c, h)) (s := (-u, -l)) hm2 (k.dom _ hm1))
          obtain ⟨rl, hrl⟩ : ∃ z, -u = z := ⟨_, rfl⟩
          obtain ⟨ru, hru⟩ : ∃ z, -l = z := ⟨_, rfl⟩
          rw [hrl, hru] at HTT HLB
          have lb2 := blk_lt h2
          have lb4 := blk_lt h4
          have HPP := Lib.hid hpre
          have HH1 := Lib.hid h1
          have HMM := Lib.hid (And.intro hm1 hm2)
          clear hmem m1 m2 m3 hm1 hm2 hpre h1 hm3 hrl hru hLL
          gi_wp2_with fail
          refine ⟨trivial, (CallsIn.inRound _ (callsIn_wide.2 HLA.out)).mono ?_⟩
          rintro e X1 ⟨rfl, K1, q1⟩
          have HK1 := Lib.hid K1
          have HQ1 := Lib.hid q1
          have y2 := (q1.block _ lb2 (fun e => by have := Option.some.inj e; omega)).trans h2
          have y4 := (q1.block _ lb4 (fun e => by have := Option.some.inj e; omega)).trans h4
          have yB := (q1.block _ ltB (fun e => by have := Option.some.inj e; omega)).trans x2
          have zz1 := q1.size
          clear K1 q1 HLA lb2 lb4 ltB
          have hmx : Try.prog.follows .mixedOrders = true := by kernel_rfl
          have HFIN := Lib.hid (show ∀ X2 X3, Up X1 X2 → T.Know X3 (w.heap.size + 1) (T.moms nR H) g (T.lrnAll T.joinB (T.stage nR H rs os ps b0 b1 b2 b3 b4 3) (pre ++ [(c, h, c', h', l, u)])) (N + 1 + 1) → X2.grownBy X3 (some (g (c', h'))) → (∀ (b : Nat) (o : Obj), X.heap[b]? = some o → ¬ (((∃ x, x ∈ T.moms nR H ∧ g x = b) ∨ b = w4.heap.size + 1) ∧ b ≠ w4.heap.size + 1) → X3.heap[b]? = some o) ∧ X.heap.size ≤ X3.heap.size ∧ (∃ N, T.Know X3 (w.heap.size + 1) (T.moms nR H) g (T.lrnAll T.joinB (T.stage nR H rs os ps b0 b1 b2 b3 b4 3) (pre ++ [(c, h, c', h', l, u)])) N ∧ N ≤ 3 * 10000 + 2 * (pre ++ [(c, h, c', h', l, u)]).length) ∧ mblk X3 (w.heap.size + 1 + 1) = some (.cells #[.map (some (w.heap.size + 1))] 139 (0, 0)) ∧ mblk X3 w.heap.size = some (.cells (CeC H (.slice aR nR cR) (.slice aO nO cO) (.slice aP nP cP) b0 b1 b2 b3 b4) 79 (0, 0)) ∧ mblk X3 wr.heap.size = some (.cells #[.func (.func 112) #[] #[], .func (.func 108) #[] #[]] 152 (0, 0)) ∧ Up w X3 ∧ (∀ d, d ∈ Ds → X3.heap[d]? = some (.deferred (some []))) ∧ w4.heap.size ≤ X3.heap.size from fun X2 X3 u2 k3 q3 => by
            have q1 := HQ1.out
            have key : ∀ b o, X.heap[b]? = some o → b ≠ g (c, h) → b ≠ g (c', h') → X3.heap[b]? = some o := fun b o hb e1 e2 => by
              have l := (Array.getElem?_eq_some_iff.1 hb).1
              have a1 := (q1.block b l (fun e => e1 (Option.some.inj e))).trans hb
              have a2 := (Below.block u2 b (by omega)).trans a1
              exact (q3.block b (Array.getElem?_eq_some_iff.1 a2).1 (fun e => e2 (Option.some.inj e))).trans a2
            have s2 := u2.size
            have s3 := q3.size
            refine ⟨fun b o hb hnp => key b o hb (fun e => hnp ⟨.inl ⟨_, HMM.out.1, e.symm⟩, by omega⟩) (fun e => hnp ⟨.inl ⟨_, HMM.out.2, e.symm⟩, by omega⟩), by omega, ⟨N + 1 + 1, k3, by rw [List.length_append, List.length_singleton]; omega⟩, key _ _ h2 (by omega) (by omega), key _ _ h3 (by omega) (by omega), key _ _ h4 (by omega) (by omega), ((h5.grown q1 (fun k e => by have := Option.some.inj e; omega)).trans u2).grown q3 (fun k e => by have := Option.some.inj e; omega), fun d hd => ?_, by omega⟩
            have nd : ∀ y, y ∈ T.moms nR H → d ≠ g y := fun y hy e => by
              obtain ⟨M, ⟨es, ck, hh, _⟩, _⟩ := HH1.out.inn y hy
              have q := h6 d hd
              rw [e, hh] at q
              cases q
            exact key _ _ (h6 d hd) (nd _ HMM.out.1) (nd _ HMM.out.2))
          clear HQ1 HMM HH1 HPP
          gi_wp2_with fail
          have cy2 := cellB y2
          have cy4 := cellB y4
          have cyB := cellB yB
          gi_region_with_o (first
            | (refine ⟨trivial, (CallsIn.inRound _ (callsIn_wide.2 (HTT.out _))).mono ?_⟩; rintro e X2 ⟨rfl, u2'⟩; have u2 : Up X1 X2 := ((Up.refl X1).drew).trans u2'; have t2 := cellB (u2.blk y2); have t4 := cellB (u2.blk y4); have tB := cellB (u2.blk yB))
            | (refine ⟨trivial, (CallsIn.inRound _ (callsIn_wide.2 (HLB.out _ (HK1.out.up u2)))).mono ?_⟩; rintro e X3 ⟨rfl, K3, q3⟩; have HK3 := Lib.hid K3; have HQ3 := Lib.hid q3; clear K3 q3))
          all_goals exact HFIN.out _ _ u2 HK3.out HQ3.out
        case done =>
          rintro X ⟨⟨N, h1, h1n⟩, h2, h3, h4, h5, h6, h7⟩ hzX hd
          have HLL := L4.out
          gi_wp2
          refine Handed.intro (4 - (3 + 1)) (by omega) (hJ' _ _ _ ?_)
          refine ⟨_, _, _, _, _, _, _, _, 4, w4.heap.size :: Ds, by omega, by omega, rfl, rfl, ⟨List.nodup_cons.2 ⟨fun hm => ?_, hnd⟩, fun e he => ?_⟩, h2, h3, ⟨N, (show T.Know X (w.heap.size + 1) (T.moms nR H) g (T.stage nR H rs os ps b0 b1 b2 b3 b4 4) N from h1), by simp; omega⟩, h5, by omega⟩
          · have := (HD.out _ hm).2.1; omega
          · rcases List.mem_cons.1 he with rfl | he
            · exact ⟨by omega, hd⟩
            · exact ⟨(HD.out e he).1, h6 e he⟩
      · have hKK := Lib.hid (show T.Know wr (w.heap.size + 1) (T.moms nR H) g (T.stage nR H rs os ps b0 b1 b2 b3 b4 4) N from hKn)
        clear hKn
        gi_wp2
        refine leaves_marks Ds wr hnd (fun d hd => (hDs d hd).2) (fun W' a1 a2 a3 a4 a5 => ?_)
        refine ⟨_, results_tmp rfl _ _ _, w.heap.size + 1, g, N, rfl, hKK.out.other fun b hb hc => a5 b fun hm => ?_, a1.trans hU.os, a2.trans hU.tape, a3.trans hU.output, by rw [a4]; exact hU.size, fun b hb => (a5 b (fun hm => by have := (hDs b hm).1; omega)).trans (Below.block hU b hb)⟩
        rcases hc with rfl | ⟨x, hx, rfl⟩
        · have := (hDs _ hm).1; omega
        · obtain ⟨M, ⟨es, ck, hh, _⟩, _⟩ := hKK.out.inn x hx
          have q := (hDs _ hm).2
          rw [hh] at q
          cases q
end

end Go.Proofs.Ytcmdaiklkdeanaa
