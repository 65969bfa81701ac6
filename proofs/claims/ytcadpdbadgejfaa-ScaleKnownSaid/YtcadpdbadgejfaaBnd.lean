import Derived.Test.YtcadpdbadgejfaaNbk
import Derived.Test.YtcadpdbadgejfaaHel
/- The contract of the iterator of a tick's bounds. -/
namespace Go.Proofs.Ytcadpdbadgejfaa
open Go.RowKit Go.Shelf
attribute [local go_sem] Oper.semAt_some

/-- all that a world held, it holds still -/
def S.Same (w w' : World) : Prop := (∀ b, b < w.heap.size → w'.heap[b]? = w.heap[b]?) ∧ w.heap.size ≤ w'.heap.size
theorem S.Same.of {w w' : World} (u : Up w w') : S.Same w w' := ⟨fun b hb => Below.block u b hb, u.size⟩
theorem S.Same.refl (w : World) : S.Same w w := ⟨fun _ _ => rfl, Nat.le_refl _⟩
theorem S.Same.trans {a b c : World} (h : S.Same a b) (k : S.Same b c) : S.Same a c := ⟨fun n hn => (k.1 n (Nat.lt_of_lt_of_le hn h.2)).trans (h.1 n hn), Nat.le_trans h.2 k.2⟩
theorem S.Same.ky {w0 w Y : World} {sb : Nat} (h : S.Same w0 w) (hs : w0.heap.size ≤ sb) (k : S.Ky sb w.heap.size w Y) : S.Same w0 Y :=
  ⟨fun n hn => (k.1 n (Nat.lt_of_lt_of_le hn h.2) (by omega)).trans (h.1 n hn), Nat.le_trans h.2 k.2⟩
theorem Ints.same {w w' : World} {v : Value} {xs : List Int} (h : Ints w v xs) (u : S.Same w w') : Ints w' v xs := by
  obtain ⟨a, c, e, hc, hl, hm⟩ := h.is
  refine ⟨a, c, e, hc, hl, fun h0 => ?_⟩
  obtain ⟨g, off, e1, e2, e3⟩ := hm h0
  exact ⟨g, off, e1, Nat.lt_of_lt_of_le e2 u.2, fun j hj => (cell_blk (u.1 g e2) _).trans (e3 j hj)⟩
theorem Lks.same {w w' : World} {v : Value} {ls : List (Int × Int × Int)} (h : Lks w v ls) (u : S.Same w w') : Lks w' v ls := by
  obtain ⟨a, c, e, hc, hl, hm⟩ := h.is
  refine ⟨a, c, e, hc, hl, fun h0 => ?_⟩
  obtain ⟨g, off, e1, e2, e3⟩ := hm h0
  exact ⟨g, off, e1, Nat.lt_of_lt_of_le e2 u.2, fun j hj => ⟨(cell_blk (u.1 g e2) _).trans (e3 j hj).1, (cell_blk (u.1 g e2) _).trans (e3 j hj).2.1, (cell_blk (u.1 g e2) _).trans (e3 j hj).2.2⟩⟩
theorem Lks.len {w : World} {a : Option Addr} {n c : Nat} {ls : List (Int × Int × Int)} (I : Lks w (.slice a n c) ls) : n = ls.length ∧ ls.length ≤ 9223372036854775807 := by
  obtain ⟨a', c', e, hc, hl, hm⟩ := I.is
  injection e with e1 e2 e3
  exact ⟨e2, hl⟩
/-- a book whose numbers are as small as a valid one's -/
structure S.Bk.Good (b : S.Bk) : Prop where
  t1 : 1 ≤ b.ticks
  t2 : b.ticks ≤ 60
  st : ∀ i, -500 ≤ b.steer.getD i 0 ∧ b.steer.getD i 0 ≤ 500
  d1 : -100 ≤ b.lo ∧ b.lo ≤ 100
  d2 : -100 ≤ b.hi ∧ b.hi ≤ 100
  len : b.looks.length ≤ 10
/-- the cells of offsets -/
structure S.OC (cs : Array Value) (o : S.Ofs) : Prop where
  size : cs.size = 122
  lo : ∀ i, i < 61 → cs[i * 2]? = some (.int .i64 (o i).1)
  hi : ∀ i, i < 61 → cs[i * 2 + 1]? = some (.int .i64 (o i).2)
theorem cell_off {w : World} {b : Nat} {cs : Array Value} (h : mblk w b = some (.cells cs 108 (0, 0))) (j : Nat) : w.cell? ⟨b, j, none⟩ = cs[j]? := cellB h j
attribute [go_sem] cell_off

section
variable {f s j : Int} {a a' : Option Addr} {n1 c n2 c' : Nat}
theorem change_bk {b : S.Bk} (hb : b.Good) (t : Nat) {w : World} (I : Ints w (.slice a n1 c) b.steer) : Calls Try.prog 118 #[BV f s j b.lo b.hi b.ticks (.slice a n1 c) (.slice a' n2 c'), .int .i64 t] w fun e w' => e = .returned (SpV (b.cL t) (b.cH t)) ∧ Up w w' := by
  by_cases ht : t < b.steer.length
  · exact change_in t ht I (hb.st t) hb.d1 hb.d2
  · have e : b.steer.getD t 0 = 0 := by rw [List.getD_eq_getElem?_getD, List.getElem?_eq_none (by omega)]; rfl
    unfold S.Bk.cL S.Bk.cH
    rw [e, Int.zero_add, Int.zero_add]
    have hl := I.len
    exact change_last t (by omega) w
theorem S.Bk.Good.cb {b : S.Bk} (hb : b.Good) (t : Nat) : (-600 ≤ b.cL t ∧ b.cL t ≤ 600) ∧ (-600 ≤ b.cH t ∧ b.cH t ≤ 600) := by
  have h1 := hb.st t
  have h2 := hb.d1
  have h3 := hb.d2
  unfold S.Bk.cL S.Bk.cH
  omega

/-- the spans of the first looks, at a tick -/
def S.Bk.lk (b : S.Bk) (t k : Nat) : List (Int × Int) := ((b.looks.take k).filter fun l => decide (l.1 = (t : Int))).map fun l => l.2
theorem S.Bk.lk_yes {b : S.Bk} {t k : Nat} (hk : k < b.looks.length) (h : (b.looks.getD k (0, 0, 0)).1 = (t : Int)) : b.lk t (k + 1) = b.lk t k ++ [(b.looks.getD k (0, 0, 0)).2] := by
  unfold S.Bk.lk
  rw [List.getD_eq_getElem?_getD, List.getElem?_eq_getElem hk, Option.getD_some] at *
  rw [List.take_succ_eq_append_getElem hk, List.filter_append, List.map_append, List.filter_cons_of_pos (by simpa using h)]
  rfl
theorem S.Bk.lk_no {b : S.Bk} {t k : Nat} (hk : k < b.looks.length) (h : ¬ (b.looks.getD k (0, 0, 0)).1 = (t : Int)) : b.lk t (k + 1) = b.lk t k := by
  unfold S.Bk.lk
  rw [List.getD_eq_getElem?_getD, List.getElem?_eq_getElem hk, Option.getD_some] at h
  rw [List.take_succ_eq_append_getElem hk, List.filter_append, List.map_append, List.filter_cons_of_neg (by simpa using h)]
  simp
theorem S.Bk.lk_pre {b : S.Bk} {t : Nat} (o : S.Ofs) (k : Nat) : b.lk t k <+: b.bounds o t := by
  unfold S.Bk.lk S.Bk.bounds
  rw [List.append_assoc]
  refine List.IsPrefix.trans ?_ (List.prefix_append _ _)
  exact ((List.take_prefix k b.looks).filter _).map _
theorem S.Bk.lk_lt {b : S.Bk} {t k : Nat} (o : S.Ofs) (hk : k < b.looks.length) (h : (b.looks.getD k (0, 0, 0)).1 = (t : Int)) : (b.lk t k).length < (b.bounds o t).length := by
  have := (S.Bk.lk_pre (b := b) (t := t) o (k + 1)).length_le
  rw [S.Bk.lk_yes hk h, List.length_append, List.length_singleton] at this
  omega

theorem S.Bk.bounds_is (b : S.Bk) (o : S.Ofs) (t : Nat) : b.bounds o t = (b.lk t b.looks.length ++ (if 0 < t then [((o (t - 1)).1 + b.cL (t - 1), (o (t - 1)).2 + b.cH (t - 1))] else [])) ++ (if t < b.ticks then [((o (t + 1)).1 + -b.cH t, (o (t + 1)).2 + -b.cL t)] else []) := by
  unfold S.Bk.bounds S.Bk.lk
  rw [List.take_length]
/-- only the normal way is looked at -/
theorem wpIn_nrm {F : Fence} {n : Nat} {P : Program} {c : Code} {Q : Exit → Act → World → Prop} {a : Act} {w : World} (h : c.wpIn F n P (S.Nrm fun a w => Q .normal a w) a w) : c.wpIn F n P Q a w :=
  wpIn_mono h fun e a w h => by cases e <;> first | exact h | exact h.elim

set_option maxRecDepth 100000 in
set_option maxHeartbeats 4000000 in
theorem bounds1_in {b : S.Bk} (hb : b.Good) {o : S.Ofs} (hF : S.Fine o) {t : Nat} (ht : t ≤ b.ticks) {cs : Array Value} (hcs : S.OC cs o) {n : Nat} (hn : 1 ≤ n) {l sb b1 b2 b3 : Nat} {w0 w : World} (hw0 : S.Same w0 w) (hsb : w0.heap.size ≤ sb)
    (k1 : mblk w b1 = some (.cells (BC f s j b.lo b.hi b.ticks (.slice a n1 c) (.slice a' n2 c')) 104 (0, 0))) (k2 : mblk w b2 = some (.cells #[.int .i64 t] 3 (0, 0))) (k3 : mblk w b3 = some (.cells cs 108 (0, 0)))
    (I : Ints w0 (.slice a n1 c) b.steer) (I' : Lks w0 (.slice a' n2 c') b.looks) (hne : b1 ≠ sb ∧ b2 ≠ sb ∧ b3 ≠ sb)
    (J Jx : List (Int × Int) → World → Prop) (W : World) (hW : S.Ky sb w.heap.size w W)
    (hJ : ∀ s X Y, J s X → Up X Y → J s Y)
    (hY : ∀ pre (x : Int × Int) X, J pre X → pre.length < (b.bounds o t).length → YieldAt Fence.wide (n - 1) Try.prog l #[SpV x.1 x.2] X fun e Y =>
      (e = .returned (.bool true) ∧ J (pre ++ [x]) Y ∧ S.Ky sb w.heap.size X Y) ∨ (e = .returned (.bool false) ∧ Jx (pre ++ [x]) Y))
    (h0 : J [] W) :
    CallsIn Fence.wide n Try.prog 116 #[.func (.yield l) #[] #[], .pointer (some ⟨b1, 0, none⟩), .pointer (some ⟨b2, 0, none⟩), .pointer (some ⟨b3, 0, none⟩)] W fun e Y => (∃ v, e = .returned v) ∧
      ((∃ xs, xs = b.bounds o t ∧ J xs Y) ∨ (∃ pre, pre <+: b.bounds o t ∧ Jx pre Y)) := by
  obtain ⟨m1, m2, m3⟩ := hne
  have HB := Lib.hid (fun Y (k : S.Ky sb w.heap.size w Y) => show mblk Y b1 = some (.cells (BC f s j b.lo b.hi b.ticks (.slice a n1 c) (.slice a' n2 c')) 104 (0, 0)) ∧ mblk Y b2 = some (.cells #[.int .i64 t] 3 (0, 0)) ∧ mblk Y b3 = some (.cells cs 108 (0, 0)) from ⟨(k.1 _ (blk_lt k1) m1).trans k1, (k.1 _ (blk_lt k2) m2).trans k2, (k.1 _ (blk_lt k3) m3).trans k3⟩)
  have HI := Lib.hid (fun Y (k : S.Ky sb w.heap.size w Y) => I.same (hw0.ky hsb k))
  have HL := Lib.hid (fun Y (k : S.Ky sb w.heap.size w Y) => I'.same (hw0.ky hsb k))
  have HUK := Lib.hid (fun X Y (k : S.Ky sb w.heap.size w X) (u : Up X Y) => show S.Ky sb w.heap.size w Y from S.ky_t k (S.ky_of (Below.mono u k.2)))
  obtain ⟨el, hl⟩ := I'.len
  subst el
  have HC := Lib.hid (fun Y (k : S.Ky sb w.heap.size w Y) (t : Nat) => change_bk (f := f) (s := s) (j := j) (a' := a') (n2 := b.looks.length) (c' := c') hb t (I.same (hw0.ky hsb k)))
  have HG := Lib.hid hb
  have HF := Lib.hid hF
  have HO := Lib.hid hcs
  have HJ := Lib.hid hJ
  have HY := Lib.hid hY
  obtain ⟨r1, r2, r3⟩ := HB.out W hW
  have hsz := Lib.hid hcs.size
  have l10 := hb.len
  have t60 := hb.t2
  clear k1 k2 k3 I I' hJ hY hb hF hcs hw0 hsb
  refine callsIn_of_wp Try.func116 rfl trivial ?_ rfl
  simp only [Try.ntmps116, List.size_toArray, List.length_cons, List.length_nil, Nat.reduceAdd, Nat.reduceSub, Array.replicate_succ, Array.replicate_zero, List.push_toArray, List.append_toArray, List.nil_append, List.cons_append]
  gi_wp2_with fail
  gi_loopw [11] (fun i wr => ∃ k : Nat, k ≤ b.looks.length ∧ i = .int .i64 k ∧ J (b.lk t k) wr ∧ S.Ky sb w.heap.size w wr) (fun i _ => b.looks.length - (intOf i).toNat)
  case atStart => exact ⟨0, Nat.zero_le _, rfl, h0, hW⟩
  case round =>
    clear r1 r2 r3 h0 hW
    obtain ⟨k, hk, rfl, hJs, V⟩ := hrel
    obtain ⟨q1, q2, q3⟩ := HB.out wr V
    by_cases hlt : k < b.looks.length
    · obtain ⟨y1, z1, e1, _, _, hm⟩ := (HL.out wr V).is
      injection e1 with e1 e2 e3
      subst e1 e3
      clear e2
      obtain ⟨g, off, rfl, gl, hc⟩ := hm (by omega)
      obtain ⟨x1, x2, x3⟩ := hc k hlt
      have hyes := S.Bk.lk_yes (b := b) (t := t) hlt
      have hno := S.Bk.lk_no (b := b) (t := t) hlt
      have hlk := S.Bk.lk_lt (b := b) (t := t) o hlt
      generalize b.looks.getD k (0, 0, 0) = z at *
      obtain ⟨tk, lo, hi⟩ := z
      simp only at x1 x2 x3 hyes hno hlk
      clear hc hm
      by_cases htk : tk = (t : Int)
      · subst htk
        have hJ2 := HJ.out _ _ _ hJs ((Up.refl wr).alloc (.cells #[.int .i64 t, .int .i64 lo, .int .i64 hi] 71))
        have V2 := HUK.out _ _ V ((Up.refl wr).alloc (.cells #[.int .i64 t, .int .i64 lo, .int .i64 hi] 71))
        have hYk := HY.out _ (lo, hi) _ hJ2 (hlk rfl)
        obtain ⟨fn, tmps, assign, body, hy, hR⟩ := hYk
        have hpre := hyes rfl
        have q2' := blk_keep (.cells #[.int .i64 t, .int .i64 lo, .int .i64 hi] 71) q2
        have q4 := blk_new wr (.cells #[.int .i64 t, .int .i64 lo, .int .i64 hi] 71) _ rfl
        have c2 := cellB q2'
        have c4 := cellB q4
        have HP := Lib.hid hpre
        clear hyes hno hlk hpre hJs
        gi_wp2_with fail
        refine hR.mono ?_
        rintro e w3 (⟨rfl, hJ3, hk3⟩ | ⟨rfl, hJx3⟩)
        · have V3 := S.ky_t V2 hk3
          clear hR hy hJ2 V2 q2' q4 c2 c4 hk3
          gi_wp2
          go_roundw
          case rel => exact ⟨k + 1, by omega, by go_num, by rw [HP.out]; exact hJ3, V3⟩
          case measure => simp [intOf]; omega
        · clear hR hy
          gi_wp2
          refine bodyPost_ret (results_none rfl _ _ _) rfl ?_
          exact ⟨⟨_, rfl⟩, .inr ⟨_, by rw [← HP.out]; exact S.Bk.lk_pre o (k + 1), hJx3⟩⟩
      · have HP := Lib.hid (hno htk)
        have q2' := blk_keep (.cells #[.int .i64 tk, .int .i64 lo, .int .i64 hi] 71) q2
        have q4 := blk_new wr (.cells #[.int .i64 tk, .int .i64 lo, .int .i64 hi] 71) _ rfl
        have c2 := cellB q2'
        have c4 := cellB q4
        have hJ2 := HJ.out _ _ _ hJs ((Up.refl wr).alloc (.cells #[.int .i64 tk, .int .i64 lo, .int .i64 hi] 71))
        have V2 := HUK.out _ _ V ((Up.refl wr).alloc (.cells #[.int .i64 tk, .int .i64 lo, .int .i64 hi] 71))
        have hf : (tk == (t : Int)) = false := by simp [htk]
        clear hyes hno hlk hJs
        gi_wp2
        refine ⟨fun _ h => (by cases h), ?_⟩
        gi_wp2
        go_roundw
        case rel => exact ⟨k + 1, by omega, by go_num, by rw [HP.out]; exact hJ2, V2⟩
        case measure => simp [intOf]; omega
    · obtain rfl : k = b.looks.length := by omega
      have HBo := Lib.hid (S.Bk.bounds_is b o t)
      generalize b.lk t b.looks.length = L1 at *
      clear hk hlt
      by_cases h0 : 0 < t
      · obtain ⟨p, hp⟩ : ∃ p, t - 1 = p := ⟨_, rfl⟩
        rw [if_pos h0, hp] at HBo
        have ew : IntKind.i64.wrap ((t : Int) - 1) = (p : Int) := by rw [IntWalk.i64_in _ (by omega)]; omega
        have hp61 : p < 61 := by omega
        have hp61' : (p : Int) < 61 := by omega
        have d1 := HO.out.lo p hp61
        have d2 := HO.out.hi p hp61
        have hb1 := HF.out p
        have hb2 := HG.out.cb p
        have HC1 := Lib.hid (fun Y (k : S.Ky sb w.heap.size w Y) => HC.out Y k p)
        generalize o p = op at *
        obtain ⟨ol, oh⟩ := op
        simp only at d1 d2 hb1 HBo
        obtain ⟨cl, hcl⟩ : ∃ x, b.cL p = x := ⟨_, rfl⟩
        obtain ⟨ch, hch⟩ : ∃ x, b.cH p = x := ⟨_, rfl⟩
        rw [hcl, hch] at HBo hb2 HC1
        have HD := Lib.hid (fun w => added_any ol oh cl ch w (by omega) (by omega) (by omega) (by omega))
        clear hcl hch hb1 hb2
        gi_wp2_with fail
        refine wpIn_nrm ?_
        refine regionG (fun w' => (S.Ky sb w.heap.size w w' ∧ J L1 w') ∧ mblk w' b1 = some (.cells (BC f s j b.lo b.hi b.ticks (.slice a n1 c) (.slice a' b.looks.length c')) 104 (0, 0)) ∧ mblk w' b2 = some (.cells #[.int .i64 t] 3 (0, 0)) ∧ mblk w' b3 = some (.cells cs 108 (0, 0))) 13 (by kernel_rfl) ⟨⟨HUK.out _ _ V (Up.refl wr).drew, HJ.out _ _ _ hJs (Up.refl wr).drew⟩, by rw [blk_drew]; exact q1, by rw [blk_drew]; exact q2, by rw [blk_drew]; exact q3⟩ (fun hHeld hCl => ?_)
        clear q1 q2 q3 V hJs
        refine takeG (i := 0) (d := (some 27)) (v := ?v1) rfl rfl (by kernel_rfl) (by kernel_rfl) (by decide) hCl (by kernel_rfl) (by kernel_rfl) (by kernel_rfl) (fun _ _ _ h => h) (by rfl) ?hy1 (fun _ _ _ => trivial) (by assumption) (fun hCl' => ?_)
        case hy1 => ((intro w hSw; (try dsimp only at hSw); (try go_split_ands); go_simp); try with_reducible rfl)
        simp only [Act.put, List.setIfInBounds_toArray, List.set_cons_zero, List.set_cons_succ]
        replace hCl := hCl'; clear hCl'
        refine takeG (i := 1) (d := (some 28)) (v := ?v2) rfl rfl (by kernel_rfl) (by kernel_rfl) (by decide) hCl (by kernel_rfl) (by kernel_rfl) (by kernel_rfl) (fun _ _ _ h => h) (by rfl) ?hy2 (fun _ _ _ => trivial) (by assumption) (fun hCl' => ?_)
        case hy2 => ((intro w hSw; (try dsimp only at hSw); (try go_split_ands); go_simp); try with_reducible rfl)
        simp only [Act.put, List.setIfInBounds_toArray, List.set_cons_zero, List.set_cons_succ]
        replace hCl := hCl'; clear hCl'
        refine takeG (i := 2) (d := (some 29)) (v := ?v3) rfl rfl (by kernel_rfl) (by kernel_rfl) (by decide) hCl (by kernel_rfl) (by kernel_rfl) (by kernel_rfl) (fun _ _ _ h => h) (by rfl) ?hy3 (fun _ _ _ => trivial) (by assumption) (fun hCl' => ?_)
        case hy3 => ((intro w hSw; (try dsimp only at hSw); (try go_split_ands); go_simp); try with_reducible rfl)
        simp only [Act.put, List.setIfInBounds_toArray, List.set_cons_zero, List.set_cons_succ]
        replace hCl := hCl'; clear hCl'
        refine takeG (i := 3) (d := (some 30)) (v := ?v4) rfl rfl (by kernel_rfl) (by kernel_rfl) (by decide) hCl (by kernel_rfl) (by kernel_rfl) (by kernel_rfl) (fun _ _ _ h => h) (by rfl) ?hy4 (fun _ _ _ => trivial) (by assumption) (fun hCl' => ?_)
        case hy4 => ((intro w hSw; (try dsimp only at hSw); (try go_split_ands); go_simp); try with_reducible rfl)
        simp only [Act.put, List.setIfInBounds_toArray, List.set_cons_zero, List.set_cons_succ]
        replace hCl := hCl'; clear hCl'
        refine takeG (i := 4) (d := (some 31)) (v := ?v5) rfl rfl (by kernel_rfl) (by kernel_rfl) (by decide) hCl (by kernel_rfl) (by kernel_rfl) (by kernel_rfl) (fun _ _ _ h => h) (by rfl) ?hy5 (fun _ _ _ => trivial) (by assumption) (fun hCl' => ?_)
        case hy5 => ((intro w hSw; (try dsimp only at hSw); (try go_split_ands); go_simp); try with_reducible rfl)
        simp only [Act.put, List.setIfInBounds_toArray, List.set_cons_zero, List.set_cons_succ]
        replace hCl := hCl'; clear hCl'
        refine takeG (i := 5) (d := (some 32)) (v := ?v6) rfl rfl (by kernel_rfl) (by kernel_rfl) (by decide) hCl (by kernel_rfl) (by kernel_rfl) (by kernel_rfl) (fun _ _ _ h => h) (by rfl) ?hy6 (fun _ _ _ => trivial) (by assumption) (fun hCl' => ?_)
        case hy6 => ((intro w hSw; (try dsimp only at hSw); (try go_split_ands); go_simp); try with_reducible rfl)
        simp only [Act.put, List.setIfInBounds_toArray, List.set_cons_zero, List.set_cons_succ]
        replace hCl := hCl'; clear hCl'
        refine takeG (i := 6) (d := (some 33)) (v := ?v7) rfl rfl (by kernel_rfl) (by kernel_rfl) (by decide) hCl (by kernel_rfl) (by kernel_rfl) (by kernel_rfl) (fun _ _ _ h => h) (by rfl) ?hy7 (fun _ _ _ => trivial) (by assumption) (fun hCl' => ?_)
        case hy7 => ((intro w hSw; (try dsimp only at hSw); (try go_split_ands); go_simp); try with_reducible rfl)
        simp only [Act.put, List.setIfInBounds_toArray, List.set_cons_zero, List.set_cons_succ]
        replace hCl := hCl'; clear hCl'
        refine takeG (i := 7) (d := (some 34)) (v := ?v8) rfl rfl (by kernel_rfl) (by kernel_rfl) (by decide) hCl (by kernel_rfl) (by kernel_rfl) (by kernel_rfl) (fun _ _ _ h => h) (by rfl) ?hy8 (fun _ _ _ => trivial) (by assumption) (fun hCl' => ?_)
        case hy8 => ((intro w hSw; (try dsimp only at hSw); (try go_split_ands); go_simp); try with_reducible rfl)
        simp only [Act.put, List.setIfInBounds_toArray, List.set_cons_zero, List.set_cons_succ]
        replace hCl := hCl'; clear hCl'
        refine takeG (i := 8) (d := (some 35)) (v := ?v9) rfl rfl (by kernel_rfl) (by kernel_rfl) (by decide) hCl (by kernel_rfl) (by kernel_rfl) (by kernel_rfl) (fun _ _ _ h => h) (by rfl) ?hy9 (fun _ _ _ => trivial) (by assumption) (fun hCl' => ?_)
        case hy9 => ((intro w hSw; (try dsimp only at hSw); (try go_split_ands); go_simp); try with_reducible rfl)
        simp only [Act.put, List.setIfInBounds_toArray, List.set_cons_zero, List.set_cons_succ]
        replace hCl := hCl'; clear hCl'
        refine takeG (i := 9) (d := (some 36)) (v := ?v10) rfl rfl (by kernel_rfl) (by kernel_rfl) (by decide) hCl (by kernel_rfl) (by kernel_rfl) (by kernel_rfl) (fun _ _ _ h => h) (by rfl) ?hy10 (fun _ _ _ => trivial) (by assumption) (fun hCl' => ?_)
        case hy10 => ((intro w hSw; (try dsimp only at hSw); (try go_split_ands); go_simp); try with_reducible rfl)
        simp only [Act.put, List.setIfInBounds_toArray, List.set_cons_zero, List.set_cons_succ]
        replace hCl := hCl'; clear hCl'
        refine takeG (i := 10) (d := (some 37)) (v := ?v11) rfl rfl (by kernel_rfl) (by kernel_rfl) (by decide) hCl (by kernel_rfl) (by kernel_rfl) (by kernel_rfl) (fun _ _ _ h => h) (by rfl) ?hy11 (fun _ _ _ => trivial) (by assumption) (fun hCl' => ?_)
        case hy11 => ((intro w hSw; (try dsimp only at hSw); (try go_split_ands); go_simp); try with_reducible rfl)
        simp only [Act.put, List.setIfInBounds_toArray, List.set_cons_zero, List.set_cons_succ]
        replace hCl := hCl'; clear hCl'
        refine nextG (i := 11) (by kernel_rfl) rfl (by rfl) hCl (fun K hK => ?_)
        go_simp
        refine ⟨trivial, (callsIn_wide.2 (HC1.out _ hHeld.1.1)).mono ?_⟩
        rintro e w3 ⟨rfl, u3⟩
        refine hK.out _ _ ⟨⟨HUK.out _ _ hHeld.1.1 u3, HJ.out _ _ _ hHeld.1.2 u3⟩, u3.blk hHeld.2.1, u3.blk hHeld.2.2.1, u3.blk hHeld.2.2.2⟩ (fun hHeld hCl => ?_)
        clear hK K u3
        refine nextG (i := 12) (by kernel_rfl) rfl (by rfl) hCl (fun K hK => ?_)
        go_simp
        refine ⟨trivial, (callsIn_wide.2 (HD.out _)).mono ?_⟩
        rintro e w4 ⟨rfl, u4⟩
        refine hK.out _ _ ⟨⟨HUK.out _ _ hHeld.1.1 u4, HJ.out _ _ _ hHeld.1.2 u4⟩, u4.blk hHeld.2.1, u4.blk hHeld.2.2.1, u4.blk hHeld.2.2.2⟩ (fun hHeld hCl => ?_)
        clear hK K u4
        have V4 := hHeld.1.1
        obtain ⟨fn, tmps, assign, body, hy, hR⟩ := HY.out L1 (ol + cl, oh + ch) _ hHeld.1.2 (by rw [HBo.out, List.length_append, List.length_append, List.length_singleton]; omega)
        clear hHeld
        refine lastG (i := 13) (by kernel_rfl) rfl (by rfl) (by decide) (fun K hK => ?_)
        go_simp
        refine hR.mono ?_
        rintro e w8 (⟨rfl, hJ8, hk8⟩ | ⟨rfl, hJx8⟩)
        · refine hK.out _ _ ?_
          clear hK K hR hy
          refine lastG (i := 14) (by kernel_rfl) rfl (by rfl) (by decide) (fun K hK => ?_)
          go_simp
          refine hK.out _ _ ?_
          clear hK K
          refine lastG (i := 15) (by kernel_rfl) rfl (by rfl) (by decide) (fun K hK => ?_)
          go_simp
          refine hK.out _ _ ?_
          clear hK K
          refine doneG (by kernel_rfl) ?_ _
          refine S.nrm_intro ?_
          have V8 := S.ky_t V4 hk8
          clear V4 hk8 hCl d1 d2 ew hp61 hp61' HC1 HD
          obtain ⟨q1, q2, q3⟩ := HB.out w8 V8
          obtain ⟨L2, hL2⟩ : ∃ L2, L1 ++ [(ol + cl, oh + ch)] = L2 := ⟨_, rfl⟩
          rw [hL2] at HBo hJ8
          clear hL2
          by_cases htt : t < b.ticks
          · rw [if_pos htt] at HBo
            have htt' : (t : Int) < (b.ticks : Int) := by omega
            have ew2 : IntKind.i64.wrap ((t : Int) + 1) = ((t + 1 : Nat) : Int) := by rw [IntWalk.i64_in _ (by omega)]; omega
            obtain ⟨m, hm⟩ : ∃ m, t + 1 = m := ⟨_, rfl⟩
            rw [hm] at ew2 HBo
            have hm61 : m < 61 := by omega
            have hm61' : (m : Int) < 61 := by omega
            have d3 := HO.out.lo m hm61
            have d4 := HO.out.hi m hm61
            have hb3 := HF.out m
            have hb4 := HG.out.cb t
            have HC2 := Lib.hid (fun Y (k : S.Ky sb w.heap.size w Y) => HC.out Y k t)
            generalize o m = om at *
            obtain ⟨nl, nh⟩ := om
            simp only at d3 d4 hb3 HBo
            obtain ⟨cl2, hcl2⟩ : ∃ x, b.cL t = x := ⟨_, rfl⟩
            obtain ⟨ch2, hch2⟩ : ∃ x, b.cH t = x := ⟨_, rfl⟩
            rw [hcl2, hch2] at HBo hb4 HC2
            have HT2 := Lib.hid (fun w => turned_any cl2 ch2 w (by omega) (by omega) (by omega) (by omega))
            have HD2 := Lib.hid (fun w => added_any nl nh (-ch2) (-cl2) w (by omega) (by omega) (by omega) (by omega))
            clear hcl2 hch2 hb3 hb4
            gi_wp2_with fail
            refine wpIn_nrm ?_
            refine regionG (fun w' => (S.Ky sb w.heap.size w w' ∧ J L2 w') ∧ mblk w' b1 = some (.cells (BC f s j b.lo b.hi b.ticks (.slice a n1 c) (.slice a' b.looks.length c')) 104 (0, 0)) ∧ mblk w' b2 = some (.cells #[.int .i64 t] 3 (0, 0)) ∧ mblk w' b3 = some (.cells cs 108 (0, 0))) 10 (by kernel_rfl) ⟨⟨HUK.out _ _ V8 (Up.refl w8).drew, HJ.out _ _ _ hJ8 (Up.refl w8).drew⟩, by rw [blk_drew]; exact q1, by rw [blk_drew]; exact q2, by rw [blk_drew]; exact q3⟩ (fun hHeld hCl => ?_)
            clear q1 q2 q3 V8 hJ8
            refine takeG (i := 0) (d := (some 48)) (v := ?v17) rfl rfl (by kernel_rfl) (by kernel_rfl) (by decide) hCl (by kernel_rfl) (by kernel_rfl) (by kernel_rfl) (fun _ _ _ h => h) (by rfl) ?hy17 (fun _ _ _ => trivial) (by assumption) (fun hCl' => ?_)
            case hy17 => ((intro w hSw; (try dsimp only at hSw); (try go_split_ands); go_simp); try with_reducible rfl)
            simp only [Act.put, List.setIfInBounds_toArray, List.set_cons_zero, List.set_cons_succ]
            replace hCl := hCl'; clear hCl'
            refine takeG (i := 1) (d := (some 49)) (v := ?v18) rfl rfl (by kernel_rfl) (by kernel_rfl) (by decide) hCl (by kernel_rfl) (by kernel_rfl) (by kernel_rfl) (fun _ _ _ h => h) (by rfl) ?hy18 (fun _ _ _ => trivial) (by assumption) (fun hCl' => ?_)
            case hy18 => ((intro w hSw; (try dsimp only at hSw); (try go_split_ands); go_simp); try with_reducible rfl)
            simp only [Act.put, List.setIfInBounds_toArray, List.set_cons_zero, List.set_cons_succ]
            replace hCl := hCl'; clear hCl'
            refine takeG (i := 2) (d := (some 50)) (v := ?v19) rfl rfl (by kernel_rfl) (by kernel_rfl) (by decide) hCl (by kernel_rfl) (by kernel_rfl) (by kernel_rfl) (fun _ _ _ h => h) (by rfl) ?hy19 (fun _ _ _ => trivial) (by assumption) (fun hCl' => ?_)
            case hy19 => ((intro w hSw; (try dsimp only at hSw); (try go_split_ands); go_simp); try with_reducible rfl)
            simp only [Act.put, List.setIfInBounds_toArray, List.set_cons_zero, List.set_cons_succ]
            replace hCl := hCl'; clear hCl'
            refine takeG (i := 3) (d := (some 51)) (v := ?v20) rfl rfl (by kernel_rfl) (by kernel_rfl) (by decide) hCl (by kernel_rfl) (by kernel_rfl) (by kernel_rfl) (fun _ _ _ h => h) (by rfl) ?hy20 (fun _ _ _ => trivial) (by assumption) (fun hCl' => ?_)
            case hy20 => ((intro w hSw; (try dsimp only at hSw); (try go_split_ands); go_simp); try with_reducible rfl)
            simp only [Act.put, List.setIfInBounds_toArray, List.set_cons_zero, List.set_cons_succ]
            replace hCl := hCl'; clear hCl'
            refine takeG (i := 4) (d := (some 52)) (v := ?v21) rfl rfl (by kernel_rfl) (by kernel_rfl) (by decide) hCl (by kernel_rfl) (by kernel_rfl) (by kernel_rfl) (fun _ _ _ h => h) (by rfl) ?hy21 (fun _ _ _ => trivial) (by assumption) (fun hCl' => ?_)
            case hy21 => ((intro w hSw; (try dsimp only at hSw); (try go_split_ands); go_simp); try with_reducible rfl)
            simp only [Act.put, List.setIfInBounds_toArray, List.set_cons_zero, List.set_cons_succ]
            replace hCl := hCl'; clear hCl'
            refine takeG (i := 5) (d := (some 53)) (v := ?v22) rfl rfl (by kernel_rfl) (by kernel_rfl) (by decide) hCl (by kernel_rfl) (by kernel_rfl) (by kernel_rfl) (fun _ _ _ h => h) (by rfl) ?hy22 (fun _ _ _ => trivial) (by assumption) (fun hCl' => ?_)
            case hy22 => ((intro w hSw; (try dsimp only at hSw); (try go_split_ands); go_simp); try with_reducible rfl)
            simp only [Act.put, List.setIfInBounds_toArray, List.set_cons_zero, List.set_cons_succ]
            replace hCl := hCl'; clear hCl'
            refine takeG (i := 6) (d := (some 54)) (v := ?v23) rfl rfl (by kernel_rfl) (by kernel_rfl) (by decide) hCl (by kernel_rfl) (by kernel_rfl) (by kernel_rfl) (fun _ _ _ h => h) (by rfl) ?hy23 (fun _ _ _ => trivial) (by assumption) (fun hCl' => ?_)
            case hy23 => ((intro w hSw; (try dsimp only at hSw); (try go_split_ands); go_simp); try with_reducible rfl)
            simp only [Act.put, List.setIfInBounds_toArray, List.set_cons_zero, List.set_cons_succ]
            replace hCl := hCl'; clear hCl'
            refine nextG (i := 7) (by kernel_rfl) rfl (by rfl) hCl (fun K hK => ?_)
            go_simp
            refine ⟨trivial, (callsIn_wide.2 (HC2.out _ hHeld.1.1)).mono ?_⟩
            rintro e w5 ⟨rfl, u5⟩
            refine hK.out _ _ ⟨⟨HUK.out _ _ hHeld.1.1 u5, HJ.out _ _ _ hHeld.1.2 u5⟩, u5.blk hHeld.2.1, u5.blk hHeld.2.2.1, u5.blk hHeld.2.2.2⟩ (fun hHeld hCl => ?_)
            clear hK K u5
            refine nextG (i := 8) (by kernel_rfl) rfl (by rfl) hCl (fun K hK => ?_)
            go_simp
            refine ⟨trivial, (callsIn_wide.2 (HT2.out _)).mono ?_⟩
            rintro e w6 ⟨rfl, u6⟩
            refine hK.out _ _ ⟨⟨HUK.out _ _ hHeld.1.1 u6, HJ.out _ _ _ hHeld.1.2 u6⟩, u6.blk hHeld.2.1, u6.blk hHeld.2.2.1, u6.blk hHeld.2.2.2⟩ (fun hHeld hCl => ?_)
            clear hK K u6
            refine nextG (i := 9) (by kernel_rfl) rfl (by rfl) hCl (fun K hK => ?_)
            go_simp
            refine ⟨trivial, (callsIn_wide.2 (HD2.out _)).mono ?_⟩
            rintro e w7 ⟨rfl, u7⟩
            refine hK.out _ _ ⟨⟨HUK.out _ _ hHeld.1.1 u7, HJ.out _ _ _ hHeld.1.2 u7⟩, u7.blk hHeld.2.1, u7.blk hHeld.2.2.1, u7.blk hHeld.2.2.2⟩ (fun hHeld hCl => ?_)
            clear hK K u7
            have V7 := hHeld.1.1
            obtain ⟨fn, tmps, assign, body, hy, hR⟩ := HY.out L2 (nl + -ch2, nh + -cl2) _ hHeld.1.2 (by rw [HBo.out, List.length_append, List.length_singleton]; omega)
            clear hHeld hCl
            refine lastG (i := 10) (by kernel_rfl) rfl (by rfl) (by decide) (fun K hK => ?_)
            go_simp
            refine hR.mono ?_
            rintro e w9 (⟨rfl, hJ9, hk9⟩ | ⟨rfl, hJx9⟩)
            · refine hK.out _ _ ?_
              clear hK K hR hy
              refine doneG (by kernel_rfl) ?_ _
              refine S.nrm_intro ?_
              gi_wp2
              go_end0
              exact ⟨⟨_, rfl⟩, .inl ⟨_, HBo.out.symm, hJ9⟩⟩
            · refine hK.out _ _ ?_
              clear hK K hR hy
              refine doneG (by kernel_rfl) ?_ _
              refine S.nrm_intro ?_
              gi_wp2
              go_end0
              exact ⟨⟨_, rfl⟩, .inr ⟨_, by rw [HBo.out]; exact List.prefix_rfl, hJx9⟩⟩
          · rw [if_neg htt, List.append_nil] at HBo
            have htt' : ¬ (t : Int) < (b.ticks : Int) := by omega
            gi_wp2
            go_end0
            exact ⟨⟨_, rfl⟩, .inl (by rw [HBo.out]; exact hJ8)⟩
        · refine hK.out _ _ ?_
          clear hK K hR hy
          refine lastG (i := 14) (by kernel_rfl) rfl (by rfl) (by decide) (fun K hK => ?_)
          go_simp
          refine hK.out _ _ ?_
          clear hK K
          refine lastG (i := 15) (by kernel_rfl) rfl (by rfl) (by decide) (fun K hK => ?_)
          go_simp
          refine hK.out _ _ ?_
          clear hK K
          refine doneG (by kernel_rfl) ?_ _
          refine S.nrm_intro ?_
          gi_wp2
          refine bodyPost_ret (results_none rfl _ _ _) rfl ?_
          exact ⟨⟨_, rfl⟩, .inr ⟨_, by rw [HBo.out]; exact List.prefix_append _ _, hJx8⟩⟩
      · rw [if_neg h0, List.append_nil] at HBo
        have htt : t < b.ticks := by have := HG.out.t1; omega
        rw [if_pos htt] at HBo
        have htt' : (t : Int) < (b.ticks : Int) := by omega
        have ht0 : (t : Int) = 0 := by omega
        gi_wp2_with fail
        refine wpIn_nrm ?_
        refine regionG (fun w' => (S.Ky sb w.heap.size w w' ∧ J L1 w') ∧ mblk w' b1 = some (.cells (BC f s j b.lo b.hi b.ticks (.slice a n1 c) (.slice a' b.looks.length c')) 104 (0, 0)) ∧ mblk w' b2 = some (.cells #[.int .i64 t] 3 (0, 0)) ∧ mblk w' b3 = some (.cells cs 108 (0, 0))) 15 (by kernel_rfl) ⟨⟨HUK.out _ _ V (Up.refl wr).drew, HJ.out _ _ _ hJs (Up.refl wr).drew⟩, by rw [blk_drew]; exact q1, by rw [blk_drew]; exact q2, by rw [blk_drew]; exact q3⟩ (fun hHeld hCl => ?_)
        clear q1 q2 q3 V hJs
        refine takeG (i := 0) (d := (some 27)) (v := ?v30) rfl rfl (by kernel_rfl) (by kernel_rfl) (by decide) hCl (by kernel_rfl) (by kernel_rfl) (by kernel_rfl) (fun _ _ _ h => h) (by rfl) ?hy30 (fun _ _ _ => trivial) (by assumption) (fun hCl' => ?_)
        case hy30 => ((intro w hSw; (try dsimp only at hSw); (try go_split_ands); go_simp); try with_reducible rfl)
        simp only [Act.put, List.setIfInBounds_toArray, List.set_cons_zero, List.set_cons_succ]
        replace hCl := hCl'; clear hCl'
        refine takeG (i := 1) (d := (some 28)) (v := ?v31) rfl rfl (by kernel_rfl) (by kernel_rfl) (by decide) hCl (by kernel_rfl) (by kernel_rfl) (by kernel_rfl) (fun _ _ _ h => h) (by rfl) ?hy31 (fun _ _ _ => trivial) (by assumption) (fun hCl' => ?_)
        case hy31 => ((intro w hSw; (try dsimp only at hSw); (try go_split_ands); go_simp); try with_reducible rfl)
        simp only [Act.put, List.setIfInBounds_toArray, List.set_cons_zero, List.set_cons_succ]
        replace hCl := hCl'; clear hCl'
        refine takeG (i := 2) (d := (some 29)) (v := ?v32) rfl rfl (by kernel_rfl) (by kernel_rfl) (by decide) hCl (by kernel_rfl) (by kernel_rfl) (by kernel_rfl) (fun _ _ _ h => h) (by rfl) ?hy32 (fun _ _ _ => trivial) (by assumption) (fun hCl' => ?_)
        case hy32 => ((intro w hSw; (try dsimp only at hSw); (try go_split_ands); go_simp); try with_reducible rfl)
        simp only [Act.put, List.setIfInBounds_toArray, List.set_cons_zero, List.set_cons_succ]
        replace hCl := hCl'; clear hCl'
        refine skipG (i := 3) (d := (some 30)) rfl rfl (by kernel_rfl) (by kernel_rfl) (by decide) hCl (by kernel_rfl) (by kernel_rfl) (by kernel_rfl) (fun _ _ _ h => h) (by rfl) (fun _ _ _ => trivial) (by assumption) (fun hCl' => ?_)
        simp only [Act.put, List.setIfInBounds_toArray, List.set_cons_zero, List.set_cons_succ]
        replace hCl := hCl'; clear hCl'
        refine skipG (i := 4) (d := (some 31)) rfl rfl (by kernel_rfl) (by kernel_rfl) (by decide) hCl (by kernel_rfl) (by kernel_rfl) (by kernel_rfl) (fun _ _ _ h => h) (by rfl) (fun _ _ _ => trivial) (by assumption) (fun hCl' => ?_)
        simp only [Act.put, List.setIfInBounds_toArray, List.set_cons_zero, List.set_cons_succ]
        replace hCl := hCl'; clear hCl'
        refine skipG (i := 5) (d := (some 32)) rfl rfl (by kernel_rfl) (by kernel_rfl) (by decide) hCl (by kernel_rfl) (by kernel_rfl) (by kernel_rfl) (fun _ _ _ h => h) (by rfl) (fun _ _ _ => trivial) (by assumption) (fun hCl' => ?_)
        simp only [Act.put, List.setIfInBounds_toArray, List.set_cons_zero, List.set_cons_succ]
        replace hCl := hCl'; clear hCl'
        refine skipG (i := 6) (d := (some 33)) rfl rfl (by kernel_rfl) (by kernel_rfl) (by decide) hCl (by kernel_rfl) (by kernel_rfl) (by kernel_rfl) (fun _ _ _ h => h) (by rfl) (fun _ _ _ => trivial) (by assumption) (fun hCl' => ?_)
        simp only [Act.put, List.setIfInBounds_toArray, List.set_cons_zero, List.set_cons_succ]
        replace hCl := hCl'; clear hCl'
        refine skipG (i := 7) (d := (some 34)) rfl rfl (by kernel_rfl) (by kernel_rfl) (by decide) hCl (by kernel_rfl) (by kernel_rfl) (by kernel_rfl) (fun _ _ _ h => h) (by rfl) (fun _ _ _ => trivial) (by assumption) (fun hCl' => ?_)
        simp only [Act.put, List.setIfInBounds_toArray, List.set_cons_zero, List.set_cons_succ]
        replace hCl := hCl'; clear hCl'
        refine skipG (i := 8) (d := (some 35)) rfl rfl (by kernel_rfl) (by kernel_rfl) (by decide) hCl (by kernel_rfl) (by kernel_rfl) (by kernel_rfl) (fun _ _ _ h => h) (by rfl) (fun _ _ _ => trivial) (by assumption) (fun hCl' => ?_)
        simp only [Act.put, List.setIfInBounds_toArray, List.set_cons_zero, List.set_cons_succ]
        replace hCl := hCl'; clear hCl'
        refine skipG (i := 9) (d := (some 36)) rfl rfl (by kernel_rfl) (by kernel_rfl) (by decide) hCl (by kernel_rfl) (by kernel_rfl) (by kernel_rfl) (fun _ _ _ h => h) (by rfl) (fun _ _ _ => trivial) (by assumption) (fun hCl' => ?_)
        simp only [Act.put, List.setIfInBounds_toArray, List.set_cons_zero, List.set_cons_succ]
        replace hCl := hCl'; clear hCl'
        refine skipG (i := 10) (d := (some 37)) rfl rfl (by kernel_rfl) (by kernel_rfl) (by decide) hCl (by kernel_rfl) (by kernel_rfl) (by kernel_rfl) (fun _ _ _ h => h) (by rfl) (fun _ _ _ => trivial) (by assumption) (fun hCl' => ?_)
        simp only [Act.put, List.setIfInBounds_toArray, List.set_cons_zero, List.set_cons_succ]
        replace hCl := hCl'; clear hCl'
        refine skipG (i := 11) (d := (some 38)) rfl rfl (by kernel_rfl) (by kernel_rfl) (by decide) hCl (by kernel_rfl) (by kernel_rfl) (by kernel_rfl) (fun _ _ _ h => h) (by rfl) (fun _ _ _ => trivial) (by assumption) (fun hCl' => ?_)
        simp only [Act.put, List.setIfInBounds_toArray, List.set_cons_zero, List.set_cons_succ]
        replace hCl := hCl'; clear hCl'
        refine skipG (i := 12) (d := (some 39)) rfl rfl (by kernel_rfl) (by kernel_rfl) (by decide) hCl (by kernel_rfl) (by kernel_rfl) (by kernel_rfl) (fun _ _ _ h => h) (by rfl) (fun _ _ _ => trivial) (by assumption) (fun hCl' => ?_)
        simp only [Act.put, List.setIfInBounds_toArray, List.set_cons_zero, List.set_cons_succ]
        replace hCl := hCl'; clear hCl'
        refine skipG (i := 13) (d := (some 40)) rfl rfl (by kernel_rfl) (by kernel_rfl) (by decide) hCl (by kernel_rfl) (by kernel_rfl) (by kernel_rfl) (fun _ _ _ h => h) (by rfl) (fun _ _ _ => trivial) (by assumption) (fun hCl' => ?_)
        simp only [Act.put, List.setIfInBounds_toArray, List.set_cons_zero, List.set_cons_succ]
        replace hCl := hCl'; clear hCl'
        refine skipG (i := 14) (d := (some 41)) rfl rfl (by kernel_rfl) (by kernel_rfl) (by decide) hCl (by kernel_rfl) (by kernel_rfl) (by kernel_rfl) (fun _ _ _ h => h) (by rfl) (fun _ _ _ => trivial) (by assumption) (fun hCl' => ?_)
        simp only [Act.put, List.setIfInBounds_toArray, List.set_cons_zero, List.set_cons_succ]
        replace hCl := hCl'; clear hCl'
        have V4 := hHeld.1.1
        have J4 := hHeld.1.2
        obtain ⟨w4, hw4⟩ : ∃ w4, wr.drew = w4 := ⟨_, rfl⟩
        rw [hw4] at V4 J4 ⊢
        clear hHeld hCl hw4
        refine lastG (i := 15) (by kernel_rfl) rfl (by rfl) (by decide) (fun K hK => ?_)
        go_simp
        refine hK.out _ _ ?_
        clear hK K
        refine doneG (by kernel_rfl) ?_ _
        refine S.nrm_intro ?_
        obtain ⟨q1, q2, q3⟩ := HB.out w4 V4
        clear ht0
        have ew2 : IntKind.i64.wrap ((t : Int) + 1) = ((t + 1 : Nat) : Int) := by rw [IntWalk.i64_in _ (by omega)]; omega
        obtain ⟨m, hm⟩ : ∃ m, t + 1 = m := ⟨_, rfl⟩
        rw [hm] at ew2 HBo
        have hm61 : m < 61 := by omega
        have hm61' : (m : Int) < 61 := by omega
        have d3 := HO.out.lo m hm61
        have d4 := HO.out.hi m hm61
        have hb3 := HF.out m
        have hb4 := HG.out.cb t
        have HC2 := Lib.hid (fun Y (k : S.Ky sb w.heap.size w Y) => HC.out Y k t)
        generalize o m = om at *
        obtain ⟨nl, nh⟩ := om
        simp only at d3 d4 hb3 HBo
        obtain ⟨cl2, hcl2⟩ : ∃ x, b.cL t = x := ⟨_, rfl⟩
        obtain ⟨ch2, hch2⟩ : ∃ x, b.cH t = x := ⟨_, rfl⟩
        rw [hcl2, hch2] at HBo hb4 HC2
        have HT2 := Lib.hid (fun w => turned_any cl2 ch2 w (by omega) (by omega) (by omega) (by omega))
        have HD2 := Lib.hid (fun w => added_any nl nh (-ch2) (-cl2) w (by omega) (by omega) (by omega) (by omega))
        clear hcl2 hch2 hb3 hb4
        gi_wp2_with fail
        refine wpIn_nrm ?_
        refine regionG (fun w' => (S.Ky sb w.heap.size w w' ∧ J L1 w') ∧ mblk w' b1 = some (.cells (BC f s j b.lo b.hi b.ticks (.slice a n1 c) (.slice a' b.looks.length c')) 104 (0, 0)) ∧ mblk w' b2 = some (.cells #[.int .i64 t] 3 (0, 0)) ∧ mblk w' b3 = some (.cells cs 108 (0, 0))) 10 (by kernel_rfl) ⟨⟨HUK.out _ _ V4 (Up.refl w4).drew, HJ.out _ _ _ J4 (Up.refl w4).drew⟩, by rw [blk_drew]; exact q1, by rw [blk_drew]; exact q2, by rw [blk_drew]; exact q3⟩ (fun hHeld hCl => ?_)
        clear q1 q2 q3 V4 J4
        refine takeG (i := 0) (d := (some 48)) (v := ?v46) rfl rfl (by kernel_rfl) (by kernel_rfl) (by decide) hCl (by kernel_rfl) (by kernel_rfl) (by kernel_rfl) (fun _ _ _ h => h) (by rfl) ?hy46 (fun _ _ _ => trivial) (by assumption) (fun hCl' => ?_)
        case hy46 => ((intro w hSw; (try dsimp only at hSw); (try go_split_ands); go_simp); try with_reducible rfl)
        simp only [Act.put, List.setIfInBounds_toArray, List.set_cons_zero, List.set_cons_succ]
        replace hCl := hCl'; clear hCl'
        refine takeG (i := 1) (d := (some 49)) (v := ?v47) rfl rfl (by kernel_rfl) (by kernel_rfl) (by decide) hCl (by kernel_rfl) (by kernel_rfl) (by kernel_rfl) (fun _ _ _ h => h) (by rfl) ?hy47 (fun _ _ _ => trivial) (by assumption) (fun hCl' => ?_)
        case hy47 => ((intro w hSw; (try dsimp only at hSw); (try go_split_ands); go_simp); try with_reducible rfl)
        simp only [Act.put, List.setIfInBounds_toArray, List.set_cons_zero, List.set_cons_succ]
        replace hCl := hCl'; clear hCl'
        refine takeG (i := 2) (d := (some 50)) (v := ?v48) rfl rfl (by kernel_rfl) (by kernel_rfl) (by decide) hCl (by kernel_rfl) (by kernel_rfl) (by kernel_rfl) (fun _ _ _ h => h) (by rfl) ?hy48 (fun _ _ _ => trivial) (by assumption) (fun hCl' => ?_)
        case hy48 => ((intro w hSw; (try dsimp only at hSw); (try go_split_ands); go_simp); try with_reducible rfl)
        simp only [Act.put, List.setIfInBounds_toArray, List.set_cons_zero, List.set_cons_succ]
        replace hCl := hCl'; clear hCl'
        refine takeG (i := 3) (d := (some 51)) (v := ?v49) rfl rfl (by kernel_rfl) (by kernel_rfl) (by decide) hCl (by kernel_rfl) (by kernel_rfl) (by kernel_rfl) (fun _ _ _ h => h) (by rfl) ?hy49 (fun _ _ _ => trivial) (by assumption) (fun hCl' => ?_)
        case hy49 => ((intro w hSw; (try dsimp only at hSw); (try go_split_ands); go_simp); try with_reducible rfl)
        simp only [Act.put, List.setIfInBounds_toArray, List.set_cons_zero, List.set_cons_succ]
        replace hCl := hCl'; clear hCl'
        refine takeG (i := 4) (d := (some 52)) (v := ?v50) rfl rfl (by kernel_rfl) (by kernel_rfl) (by decide) hCl (by kernel_rfl) (by kernel_rfl) (by kernel_rfl) (fun _ _ _ h => h) (by rfl) ?hy50 (fun _ _ _ => trivial) (by assumption) (fun hCl' => ?_)
        case hy50 => ((intro w hSw; (try dsimp only at hSw); (try go_split_ands); go_simp); try with_reducible rfl)
        simp only [Act.put, List.setIfInBounds_toArray, List.set_cons_zero, List.set_cons_succ]
        replace hCl := hCl'; clear hCl'
        refine takeG (i := 5) (d := (some 53)) (v := ?v51) rfl rfl (by kernel_rfl) (by kernel_rfl) (by decide) hCl (by kernel_rfl) (by kernel_rfl) (by kernel_rfl) (fun _ _ _ h => h) (by rfl) ?hy51 (fun _ _ _ => trivial) (by assumption) (fun hCl' => ?_)
        case hy51 => ((intro w hSw; (try dsimp only at hSw); (try go_split_ands); go_simp); try with_reducible rfl)
        simp only [Act.put, List.setIfInBounds_toArray, List.set_cons_zero, List.set_cons_succ]
        replace hCl := hCl'; clear hCl'
        refine takeG (i := 6) (d := (some 54)) (v := ?v52) rfl rfl (by kernel_rfl) (by kernel_rfl) (by decide) hCl (by kernel_rfl) (by kernel_rfl) (by kernel_rfl) (fun _ _ _ h => h) (by rfl) ?hy52 (fun _ _ _ => trivial) (by assumption) (fun hCl' => ?_)
        case hy52 => ((intro w hSw; (try dsimp only at hSw); (try go_split_ands); go_simp); try with_reducible rfl)
        simp only [Act.put, List.setIfInBounds_toArray, List.set_cons_zero, List.set_cons_succ]
        replace hCl := hCl'; clear hCl'
        refine nextG (i := 7) (by kernel_rfl) rfl (by rfl) hCl (fun K hK => ?_)
        go_simp
        refine ⟨trivial, (callsIn_wide.2 (HC2.out _ hHeld.1.1)).mono ?_⟩
        rintro e w5 ⟨rfl, u5⟩
        refine hK.out _ _ ⟨⟨HUK.out _ _ hHeld.1.1 u5, HJ.out _ _ _ hHeld.1.2 u5⟩, u5.blk hHeld.2.1, u5.blk hHeld.2.2.1, u5.blk hHeld.2.2.2⟩ (fun hHeld hCl => ?_)
        clear hK K u5
        refine nextG (i := 8) (by kernel_rfl) rfl (by rfl) hCl (fun K hK => ?_)
        go_simp
        refine ⟨trivial, (callsIn_wide.2 (HT2.out _)).mono ?_⟩
        rintro e w6 ⟨rfl, u6⟩
        refine hK.out _ _ ⟨⟨HUK.out _ _ hHeld.1.1 u6, HJ.out _ _ _ hHeld.1.2 u6⟩, u6.blk hHeld.2.1, u6.blk hHeld.2.2.1, u6.blk hHeld.2.2.2⟩ (fun hHeld hCl => ?_)
        clear hK K u6
        refine nextG (i := 9) (by kernel_rfl) rfl (by rfl) hCl (fun K hK => ?_)
        go_simp
        refine ⟨trivial, (callsIn_wide.2 (HD2.out _)).mono ?_⟩
        rintro e w7 ⟨rfl, u7⟩
        refine hK.out _ _ ⟨⟨HUK.out _ _ hHeld.1.1 u7, HJ.out _ _ _ hHeld.1.2 u7⟩, u7.blk hHeld.2.1, u7.blk hHeld.2.2.1, u7.blk hHeld.2.2.2⟩ (fun hHeld hCl => ?_)
        clear hK K u7
        have V7 := hHeld.1.1
        obtain ⟨fn, tmps, assign, body, hy, hR⟩ := HY.out L1 (nl + -ch2, nh + -cl2) _ hHeld.1.2 (by rw [HBo.out, List.length_append, List.length_singleton]; omega)
        clear hHeld hCl
        refine lastG (i := 10) (by kernel_rfl) rfl (by rfl) (by decide) (fun K hK => ?_)
        go_simp
        refine hR.mono ?_
        rintro e w8 (⟨rfl, hJ8, hk8⟩ | ⟨rfl, hJx8⟩)
        · refine hK.out _ _ ?_
          clear hK K hR hy
          refine doneG (by kernel_rfl) ?_ _
          refine S.nrm_intro ?_
          gi_wp2
          go_end0
          exact ⟨⟨_, rfl⟩, .inl ⟨_, HBo.out.symm, hJ8⟩⟩
        · refine hK.out _ _ ?_
          clear hK K hR hy
          refine doneG (by kernel_rfl) ?_ _
          refine S.nrm_intro ?_
          gi_wp2
          go_end0
          exact ⟨⟨_, rfl⟩, .inr ⟨_, by rw [HBo.out]; exact List.prefix_rfl, hJx8⟩⟩
end

end Go.Proofs.Ytcadpdbadgejfaa
