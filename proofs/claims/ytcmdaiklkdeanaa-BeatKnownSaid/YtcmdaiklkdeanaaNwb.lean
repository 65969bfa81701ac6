import Derived.Test.YtcmdaiklkdeanaaNkn
import Derived.Test.YtcmdaiklkdeanaaRnI
import Derived.Test.YtcmdaiklkdeanaaTbl
import Derived.Test.YtcmdaiklkdeanaaFar
/- The contract of newWeb. -/
namespace Go.Proofs.Ytcmdaiklkdeanaa
open Go.RowKit Go.Shelf
attribute [local go_sem] Oper.semAt_some

/-- the ties of a moment, and of some -/
def T.rowT (K : T.Kn) (one : Int × Int) (L : List (Int × Int)) : List T.T6 := L.filterMap fun other => (K one other).map fun s => (one.1, one.2, other.1, other.2, s.1, s.2)
def T.tiesT (K : T.Kn) (D L : List (Int × Int)) : List T.T6 := L.flatMap fun one => T.rowT K one D
theorem T.rowT_snoc (K : T.Kn) (one x : Int × Int) (L : List (Int × Int)) : T.rowT K one (L ++ [x]) = T.rowT K one L ++ (match K one x with | none => [] | some s => [(one.1, one.2, x.1, x.2, s.1, s.2)]) := by
  unfold T.rowT
  rw [List.filterMap_append]
  cases h : K one x <;> simp [h]
theorem T.tiesT_snoc (K : T.Kn) (D L : List (Int × Int)) (x : Int × Int) : T.tiesT K D (L ++ [x]) = T.tiesT K D L ++ T.rowT K x D := by
  unfold T.tiesT
  rw [List.flatMap_append]
  simp
theorem T.rowT_len (K : T.Kn) (one : Int × Int) (L : List (Int × Int)) : (T.rowT K one L).length ≤ L.length := List.length_filterMap_le _ _
theorem T.tiesT_len (K : T.Kn) (D : List (Int × Int)) : ∀ L : List (Int × Int), (T.tiesT K D L).length ≤ L.length * D.length
  | [] => by simp [T.tiesT]
  | x :: L => by
    have e : T.tiesT K D (x :: L) = T.rowT K x D ++ T.tiesT K D L := by simp [T.tiesT]
    rw [e, List.length_append, List.length_cons, Nat.succ_mul]
    have := T.rowT_len K x D
    have := T.tiesT_len K D L
    omega
/-- all ties of a cellar -/
def T.web (n H : Nat) (rs : List (Int × Int)) (os : List (Int × Int × Int × Int)) (ps : List (Int × Int × Int × Int × Int)) (b0 b1 b2 b3 b4 : Bool) : List T.T6 := T.tiesT (T.stage n H rs os ps b0 b1 b2 b3 b4 4) (T.moms n H) (T.moms n H)
theorem T.web_len {n H : Nat} (hn : n ≤ 5) (hH : H ≤ 12) (rs : List (Int × Int)) (os : List (Int × Int × Int × Int)) (ps : List (Int × Int × Int × Int × Int)) (b0 b1 b2 b3 b4 : Bool) : (T.web n H rs os ps b0 b1 b2 b3 b4).length ≤ 5000 := by
  have hml := T.moms_len hn hH
  have q1 := T.tiesT_len (T.stage n H rs os ps b0 b1 b2 b3 b4 4) (T.moms n H) (T.moms n H)
  have q2 := Nat.mul_le_mul hml hml
  unfold T.web
  omega
theorem set10 {w : World} {b : Nat} {a0 a1 a2 a3 a4 a5 a6 a7 a8 a9 : Value} {t : TypeId} {fr : Nat × Nat} (h : mblk w b = some (.cells #[a0, a1, a2, a3, a4, a5, a6, a7, a8, a9] t fr)) (v0 v1 v2 v3 v4 v5 v6 v7 v8 v9 : Value) : mblk ((((((((((w.setCell ⟨b, 0, none⟩ v0).setCell ⟨b, 1, none⟩ v1).setCell ⟨b, 2, none⟩ v2).setCell ⟨b, 3, none⟩ v3).setCell ⟨b, 4, none⟩ v4).setCell ⟨b, 5, none⟩ v5).setCell ⟨b, 6, none⟩ v6).setCell ⟨b, 7, none⟩ v7).setCell ⟨b, 8, none⟩ v8).setCell ⟨b, 9, none⟩ v9) b = some (.cells #[v0, v1, v2, v3, v4, v5, v6, v7, v8, v9] t fr) := by
  have q := blk_put (blk_put (blk_put (blk_put (blk_put (blk_put (blk_put (blk_put (blk_put (blk_put (h) 0 v0) 1 v1) 2 v2) 3 v3) 4 v4) 5 v5) 6 v6) 7 v7) 8 v8) 9 v9
  simpa using q
theorem grown10 (w : World) (b : Nat) (v0 v1 v2 v3 v4 v5 v6 v7 v8 v9 : Value) : w.grownBy ((((((((((w.setCell ⟨b, 0, none⟩ v0).setCell ⟨b, 1, none⟩ v1).setCell ⟨b, 2, none⟩ v2).setCell ⟨b, 3, none⟩ v3).setCell ⟨b, 4, none⟩ v4).setCell ⟨b, 5, none⟩ v5).setCell ⟨b, 6, none⟩ v6).setCell ⟨b, 7, none⟩ v7).setCell ⟨b, 8, none⟩ v8).setCell ⟨b, 9, none⟩ v9) (some b) := grown_trans (grown_trans (grown_trans (grown_trans (grown_trans (grown_trans (grown_trans (grown_trans (grown_trans (grown_set _ b 0 v0) (grown_set _ b 1 v1)) (grown_set _ b 2 v2)) (grown_set _ b 3 v3)) (grown_set _ b 4 v4)) (grown_set _ b 5 v5)) (grown_set _ b 6 v6)) (grown_set _ b 7 v7)) (grown_set _ b 8 v8)) (grown_set _ b 9 v9)
theorem cell_inner {w : World} {b : Nat} {cs : Array Value} (h : mblk w b = some (.cells cs 141 (0, 0))) (j : Nat) : w.cell? ⟨b, j, none⟩ = cs[j]? := cellB h j
attribute [go_sem] cell_inner
theorem cells_new {w : World} {n : Nat} (cs : List Value) (hn : n = w.heap.size) (t : TypeId) : ∀ j u, cs[j]? = some u → (w.alloc (.cells cs.toArray t)).cell? ((⟨n, 0, none⟩ : Addr).add j) = some u := by
  intro j u h
  rw [D.add_at, Nat.zero_add]
  exact (cellB (blk_new _ _ _ hn) j).trans (by simpa using h)
theorem infoTie : (Try.prog.info? 125).map (fun i => (i.zero, i.size, i.bytes)) = some (some (.agg #[.int .i64 0, .int .i64 0, .int .i64 0, .int .i64 0, .int .i64 0, .int .i64 0]), 6, 48) := by kernel_rfl

section
variable {H : Nat} {aR aO aP aT : Option Addr} {nR cR nO cO nP cP nT cT : Nat} {b0 b1 b2 b3 b4 : Bool} {rs : List (Int × Int)} {os : List (Int × Int × Int × Int)} {ps : List (Int × Int × Int × Int × Int)}
set_option maxRecDepth 100000 in
set_option maxHeartbeats 4000000 in
theorem newWeb_any {w : World} (hH : H ≤ 12) (hR : nR ≤ 5) (I : Sps w (.slice aR nR cR) rs) (IO : Ops w (.slice aO nO cO) os) (IP : Prs w (.slice aP nP cP) ps)
    (hrs : ∀ s ∈ rs, T.Bs 1000 s) (hos : ∀ x ∈ os, (0 ≤ x.1 ∧ x.1 < nR) ∧ (0 ≤ x.2.1 ∧ x.2.1 < H) ∧ T.Bs 100000 x.2.2) (ho6 : os.length ≤ 6) (hps : ∀ x ∈ ps, (0 ≤ x.2.1 ∧ x.2.1 < nR) ∧ (-1 ≤ x.2.2.1 ∧ x.2.2.1 < nR) ∧ T.Bs 200000 x.2.2.2) (hp14 : ps.length ≤ 14) :
    Calls Try.prog 71 #[CeV H (.slice aR nR cR) (.slice aO nO cO) (.slice aP nP cP) b0 b1 b2 b3 b4] w fun e w' => (∃ aT nT cT, e = .returned (WeV H (.slice aR nR cR) (.slice aO nO cO) (.slice aP nP cP) b0 b1 b2 b3 b4 (.slice aT nT cT)) ∧ Tis w' (.slice aT nT cT) (T.web nR H rs os ps b0 b1 b2 b3 b4)) ∧ Up w w' := by
  have HN := Lib.hid (fun w' (u : Up w w') => newKnown_any (b0 := b0) (b1 := b1) (b2 := b2) (b3 := b3) (b4 := b4) hH hR (I.up u) (IO.up u) (IP.up u) hrs hos ho6 hps hp14)
  have hml := T.moms_len hR hH
  clear I IO IP hrs hos ho6 hps hp14
  refine (callsIn_wide (n := 5)).1 ?_
  refine callsIn_of_wp_marks Try.func71 rfl trivial ?_ rfl
  simp only [Try.ntmps71, List.size_toArray, List.length_cons, List.length_nil, Nat.reduceAdd, Nat.reduceSub, Array.replicate_succ, Array.replicate_zero, List.push_toArray, List.append_toArray, List.nil_append, List.cons_append]
  gi_wp2_with fail
  obtain ⟨W0, hW0⟩ : ∃ x, (w.alloc (.cells (CeC H (.slice aR nR cR) (.slice aO nO cO) (.slice aP nP cP) b0 b1 b2 b3 b4) 79)).alloc (.cells #[.int .i64 0, .slice none 0 0, .slice none 0 0, .slice none 0 0, .bool false, .bool false, .bool false, .bool false, .bool false, .slice none 0 0] 82) = x := ⟨_, rfl⟩
  obtain ⟨q0, e0⟩ : ∃ x, w.heap.size = x := ⟨_, rfl⟩
  obtain ⟨q1, e1⟩ : ∃ x, q0 + 1 = x := ⟨_, rfl⟩
  have U0 : Up w W0 := by rw [← hW0]; exact ((Up.refl w).alloc _).alloc _
  have kC : mblk W0 q0 = some (.cells (CeC H (.slice aR nR cR) (.slice aO nO cO) (.slice aP nP cP) b0 b1 b2 b3 b4) 79 (0, 0)) := by rw [← hW0]; exact blk_keep _ (blk_new _ _ _ e0.symm)
  have kR : mblk W0 q1 = some (.cells #[.int .i64 0, .slice none 0 0, .slice none 0 0, .slice none 0 0, .bool false, .bool false, .bool false, .bool false, .bool false, .slice none 0 0] 82 (0, 0)) := by rw [← hW0]; exact blk_new _ _ _ (by simp; omega)
  have z0 : W0.heap.size = q1 + 1 := by rw [← hW0]; simp; omega
  rw [hW0, e0, e1]
  clear hW0
  refine ⟨trivial, (callsIn_wide.2 (HN.out W0 U0)).mono ?_⟩
  rintro e W1 ⟨m, g, N, rfl, hK, u1⟩
  replace kC := u1.blk kC
  replace kR := u1.blk kR
  have HK := Lib.hid hK
  have hKlt := Lib.hid (show ∀ b, (b = m ∨ ∃ x ∈ T.moms nR H, g x = b) → b < W1.heap.size from fun b hb => by
    rcases hb with rfl | ⟨x, hx, rfl⟩
    · exact hK.out.lt
    · exact (hK.inn x hx).lt)
  have UW := U0.trans u1
  have zW := u1.size
  have lC := blk_lt kC
  clear hK U0 u1 HN
  gi_wp2_with fail
  clear lC
  obtain ⟨W2, hW2⟩ : ∃ x, (W1.alloc (.cells #[.map (some m)] 139)).alloc (.cells (WeC H (.slice aR nR cR) (.slice aO nO cO) (.slice aP nP cP) b0 b1 b2 b3 b4 (.slice none 0 0)) 82) = x := ⟨_, rfl⟩
  obtain ⟨q3, e3⟩ : ∃ x, W1.heap.size = x := ⟨_, rfl⟩
  obtain ⟨q4, e4⟩ : ∃ x, q3 + 1 = x := ⟨_, rfl⟩
  have u2 : Up W1 W2 := by rw [← hW2]; exact ((Up.refl W1).alloc _).alloc _
  have kM : mblk W2 q3 = some (.cells #[.map (some m)] 139 (0, 0)) := by rw [← hW2]; exact blk_keep _ (blk_new _ _ _ e3.symm)
  have kW : mblk W2 q4 = some (.cells (WeC H (.slice aR nR cR) (.slice aO nO cO) (.slice aP nP cP) b0 b1 b2 b3 b4 (.slice none 0 0)) 82 (0, 0)) := by rw [← hW2]; exact blk_new _ _ _ (by simp; omega)
  have z2 : W2.heap.size = q4 + 1 := by rw [← hW2]; simp; omega
  replace kC := u2.blk kC
  replace kR := u2.blk kR
  replace HK := Lib.hid (HK.out.up u2)
  replace UW := UW.trans u2
  rw [hW2, e3, e4]
  rw [e3] at hKlt
  clear hW2 u2
  refine ⟨trivial, (callsIn_wide.2 (moments_any _)).mono ?_⟩
  rintro e W3 ⟨rfl, hW3⟩
  obtain ⟨qi, ei⟩ : ∃ x, W2.heap.size = x := ⟨_, rfl⟩
  have u3 : Up W2 W3 := by rw [← hW3]; exact (Up.refl W2).alloc _
  have ki : mblk W3 qi = some (.cells (CeC H (.slice aR nR cR) (.slice aO nO cO) (.slice aP nP cP) b0 b1 b2 b3 b4) 79 (0, 0)) := by rw [← hW3]; exact blk_new W2 (.cells (CeC H (.slice aR nR cR) (.slice aO nO cO) (.slice aP nP cP) b0 b1 b2 b3 b4) 79) _ ei.symm
  have z3 : W3.heap.size = qi + 1 := by rw [← hW3]; simp; omega
  replace kC := u3.blk kC
  replace kR := u3.blk kR
  replace kM := u3.blk kM
  replace kW := u3.blk kW
  replace HK := Lib.hid (HK.out.up u3)
  replace UW := UW.trans u3
  rw [ei]
  clear hW3 u3
  gi_wp2_with fail
  have hK3 : Hid (∀ b, (b = m ∨ ∃ x ∈ T.moms nR H, g x = b) → b < q3) := hKlt
  refine T.rangeAllN (p := fun b => b ≠ qi ∧ b ≠ W3.heap.size) rfl (enters_of Try.func98 (by kernel_rfl) rfl) (enc := fun x : Int × Int => #[MoV x.1 x.2]) (fun _ => rfl)
    (moments_seqN hH hR (fun e => e.1 rfl) ki) ⟨by omega, by omega⟩ (fun e => e.2 rfl)
    (fun pre X => (∃ v, mblk X q4 = some (.cells (WeC H (.slice aR nR cR) (.slice aO nO cO) (.slice aP nP cP) b0 b1 b2 b3 b4 v) 82 (0, 0)) ∧ X.ownsRow (W3.heap.size + 2) 125 6 v (T.tiesT (T.stage nR H rs os ps b0 b1 b2 b3 b4 4) (T.moms nR H) pre).length (T.flat 6 T.encT (T.tiesT (T.stage nR H rs os ps b0 b1 b2 b3 b4 4) (T.moms nR H) pre))) ∧ W3.grownBy X (some q4)) ?hI ⟨⟨.slice none 0 0, kW, World.ownsRow_nil _ _ _ _⟩, up_grown (Up.refl W3) _⟩
    (fun x af X => ∃ Bx, W3.heap.size + 2 ≤ Bx ∧ mblk X Bx = some (.cells #[.int .i64 x.1, .int .i64 x.2] 100 (0, 0)) ∧ af = { tmps := List.toArray ((CeV H (.slice aR nR cR) (.slice aO nO cO) (.slice aP nP cP) b0 b1 b2 b3 b4 : Value) :: .pointer (some ⟨q0, 0, none⟩) :: .pointer (some ⟨q1, 0, none⟩) :: .pointer (some ⟨q3, 0, none⟩) :: .pointer (some ⟨q4, 0, none⟩) :: .pointer (some ⟨Bx, 0, none⟩) :: undef :: undef :: undef :: undef :: CeV H (.slice aR nR cR) (.slice aO nO cO) (.slice aP nP cP) b0 b1 b2 b3 b4 :: .map (some m) :: CeV H (.slice aR nR cR) (.slice aO nO cO) (.slice aP nP cP) b0 b1 b2 b3 b4 :: WeV H (.slice aR nR cR) (.slice aO nO cO) (.slice aP nP cP) b0 b1 b2 b3 b4 (.slice none 0 0) :: CeV H (.slice aR nR cR) (.slice aO nO cO) (.slice aP nP cP) b0 b1 b2 b3 b4 :: .func (.func 98) #[] #[.pointer (some ⟨qi, 0, none⟩)] :: MoV x.1 x.2 :: undef :: undef :: undef :: undef :: undef :: undef :: undef :: undef :: undef :: undef :: undef :: undef :: undef :: undef :: undef :: undef :: undef :: undef :: undef :: undef :: undef :: undef :: undef :: undef :: []), defers := [] }) ?hAx ?assign ?body ?done
  case hI =>
    rintro pre X Y row ⟨⟨v, h1, h2⟩, h3⟩ hg hr
    exact ⟨⟨v, (hg.block _ (blk_lt h1) (fun e => by have := (hr _ e.symm).1; omega)).trans h1, row_book h2 hg fun r e => (hr r e).2⟩, grown_own h3 hg fun r e => (hr r e).1⟩
  case hAx =>
    rintro x af _ X Y row ⟨Bx, h1, h2, h3⟩ hg hr
    exact ⟨Bx, h1, (hg.block Bx (blk_lt h2) (fun e => by obtain ⟨_, o, ho, hc⟩ := hr Bx e.symm; rw [show X.heap[Bx]? = _ from h2] at ho; cases ho; simp [T.book] at hc)).trans h2, h3⟩
  case assign =>
    rintro pre x X K _ _ hX hK
    gi_wp2
    exact hK _ _ ((Up.refl X).alloc _) ⟨X.heap.size, hX, blk_new _ _ _ rfl, rfl⟩
  case body =>
    rintro pre x af X hpre ⟨⟨v, h1, h2⟩, h3⟩ ⟨Bx, x1, x2, rfl⟩ hz ⟨r, hr⟩
    refine wpIn_hid fun G hG => ?_
    have hx : x ∈ T.moms nR H := by
      obtain ⟨t, ht⟩ := hpre
      rw [← ht]; simp
    have kM1 := grown_blk h3 kM (fun e => by have := Option.some.inj e; omega)
    have kC1 := grown_blk h3 kC (fun e => by have := Option.some.inj e; omega)
    have lk : ∀ b, b < q3 → X.heap[b]? = W3.heap[b]? := fun b hb => h3.block b (by omega) (fun e => by have := Option.some.inj e; omega)
    have HKX := Lib.hid (HK.out.other (fun b hb hc => h3.block b hb (fun e => by
      have e4 := Option.some.inj e
      have := hK3.out b hc
      omega)))
    have hlo := HKX.out.out.look (HKX.out.dom x hx) (b := g x) (by simp [hx])
    have lM := blk_lt kM1
    have l1 := blk_lt h1
    have lCX := blk_lt kC1
    gi_wp2_with fail
    refine wpIn_scope_straight ?_
    gi_wp2_with fail
    rename_i K9 hK9
    refine wpIn_label (hK9 _ _ ?_)
    clear hK9 K9
    gi_wp2_with fail
    obtain ⟨X1, hX1⟩ : ∃ y, X.alloc (.cells #[.map (some (g x))] 141) = y := ⟨_, rfl⟩
    obtain ⟨q6, e6⟩ : ∃ y, X.heap.size = y := ⟨_, rfl⟩
    have v1 : Up X X1 := by rw [← hX1]; exact (Up.refl X).alloc _
    have k6 : mblk X1 q6 = some (.cells #[.map (some (g x))] 141 (0, 0)) := by rw [← hX1]; exact blk_new _ _ _ e6.symm
    have y1 : X1.heap.size = q6 + 1 := by rw [← hX1]; simp; omega
    rw [hX1, e6]
    clear hX1
    refine ⟨trivial, (CallsIn.inRound _ (callsIn_wide.2 (moments_any _))).mono ?_⟩
    rintro e X2 ⟨rfl, hX2⟩
    obtain ⟨qj, ej⟩ : ∃ x, X1.heap.size = x := ⟨_, rfl⟩
    have v2 : Up X1 X2 := by rw [← hX2]; exact (Up.refl X1).alloc _
    have kj : mblk X2 qj = some (.cells (CeC H (.slice aR nR cR) (.slice aO nO cO) (.slice aP nP cP) b0 b1 b2 b3 b4) 79 (0, 0)) := by rw [← hX2]; exact blk_new X1 (.cells (CeC H (.slice aR nR cR) (.slice aO nO cO) (.slice aP nP cP) b0 b1 b2 b3 b4) 79) _ ej.symm
    have y2 : X2.heap.size = qj + 1 := by rw [← hX2]; simp; omega
    replace k6 := v2.blk k6
    have v := v1.trans v2
    have hr2 : X2.heap[W3.heap.size + 1]? = some (.loop r) := (Below.block v _ (Array.getElem?_eq_some_iff.1 hr).1).trans hr
    have x3 := v.blk x2
    have h1' := v.blk h1
    have h2' := row_up h2 v
    have lBx := blk_lt x2
    rw [ej]
    have hqi := Lib.hid (show X2.heap[qi]? = W3.heap[qi]? from (Below.block v qi (by omega)).trans (h3.block qi (by omega) (fun e => by have := Option.some.inj e; omega)))
    have h32 := grown_trans h3 (up_grown v (some q4))
    have zX := h3.size
    have zv := v.size
    obtain ⟨ob, hob⟩ : ∃ o, X2.heap[W3.heap.size]? = some o := ⟨_, Array.getElem?_eq_getElem (by omega)⟩
    have vv := v
    clear hX2 v1 v2 x2 v h1 h2
    gi_wp2_with fail
    obtain ⟨v0, hv0⟩ : ∃ y, y = y ∧ True := ⟨(0 : Nat), rfl, trivial⟩
    clear hv0 v0
    refine T.rangeInN hr2 (p := fun b => b ≠ qj ∧ b ≠ qi ∧ b ≠ W3.heap.size ∧ b ≠ W3.heap.size + 1) rfl (enters_of Try.func98 (by kernel_rfl) rfl) (enc := fun x : Int × Int => #[MoV x.1 x.2]) (fun _ => rfl)
      (moments_seqN hH hR (fun e => e.1 rfl) kj) ⟨by omega, by omega, by omega, by omega⟩
      (fun pr Y => (∃ v, mblk Y q4 = some (.cells (WeC H (.slice aR nR cR) (.slice aO nO cO) (.slice aP nP cP) b0 b1 b2 b3 b4 v) 82 (0, 0)) ∧ Y.ownsRow (W3.heap.size + 2) 125 6 v (T.tiesT (T.stage nR H rs os ps b0 b1 b2 b3 b4 4) (T.moms nR H) pre ++ T.rowT (T.stage nR H rs os ps b0 b1 b2 b3 b4 4) x pr).length (T.flat 6 T.encT (T.tiesT (T.stage nR H rs os ps b0 b1 b2 b3 b4 4) (T.moms nR H) pre ++ T.rowT (T.stage nR H rs os ps b0 b1 b2 b3 b4 4) x pr))) ∧ W3.grownBy Y (some q4) ∧ X2.heap.size ≤ Y.heap.size ∧ mblk Y q6 = some (.cells #[.map (some (g x))] 141 (0, 0)) ∧ mblk Y Bx = some (.cells #[.int .i64 x.1, .int .i64 x.2] 100 (0, 0)) ∧ mblk Y qj = some (.cells (CeC H (.slice aR nR cR) (.slice aO nO cO) (.slice aP nP cP) b0 b1 b2 b3 b4) 79 (0, 0)) ∧ Y.heap[W3.heap.size]? = some ob ∧ Y.heap[W3.heap.size + 1]? = some (.loop r))
      ?hI2 ⟨⟨_, h1', by rw [show T.rowT (T.stage nR H rs os ps b0 b1 b2 b3 b4 4) x [] = [] from rfl, List.append_nil]; exact h2'⟩, h32, Nat.le_refl _, k6, x3, kj, hob, hr2⟩
      (fun y af Y => ∃ By, X2.heap.size + 1 ≤ By ∧ mblk Y By = some (.cells #[.int .i64 y.1, .int .i64 y.2] 100 (0, 0)) ∧ af = { tmps := List.toArray ((CeV H (.slice aR nR cR) (.slice aO nO cO) (.slice aP nP cP) b0 b1 b2 b3 b4 : Value) :: .pointer (some ⟨q0, 0, none⟩) :: .pointer (some ⟨q1, 0, none⟩) :: .pointer (some ⟨q3, 0, none⟩) :: .pointer (some ⟨q4, 0, none⟩) :: .pointer (some ⟨Bx, 0, none⟩) :: .pointer (some ⟨q6, 0, none⟩) :: .pointer (some ⟨By, 0, none⟩) :: undef :: undef :: CeV H (.slice aR nR cR) (.slice aO nO cO) (.slice aP nP cP) b0 b1 b2 b3 b4 :: .map (some m) :: CeV H (.slice aR nR cR) (.slice aO nO cO) (.slice aP nP cP) b0 b1 b2 b3 b4 :: WeV H (.slice aR nR cR) (.slice aO nO cO) (.slice aP nP cP) b0 b1 b2 b3 b4 (.slice none 0 0) :: CeV H (.slice aR nR cR) (.slice aO nO cO) (.slice aP nP cP) b0 b1 b2 b3 b4 :: .func (.func 98) #[] #[.pointer (some ⟨qi, 0, none⟩)] :: MoV x.1 x.2 :: .map (some m) :: MoV x.1 x.2 :: .map (some (g x)) :: CeV H (.slice aR nR cR) (.slice aO nO cO) (.slice aP nP cP) b0 b1 b2 b3 b4 :: .func (.func 98) #[] #[.pointer (some ⟨qj, 0, none⟩)] :: MoV y.1 y.2 :: undef :: undef :: undef :: undef :: undef :: undef :: undef :: undef :: undef :: undef :: undef :: undef :: undef :: undef :: undef :: undef :: undef :: undef :: []), defers := [] }) ?hAx2 ?assign2 ?body2 ?done2
    case hI2 =>
      rintro pr A B row ⟨⟨v, a1, a2⟩, a3, a4, a5, a6, a7, a8, a9⟩ hg hr
      have nb : ∀ b, b < X2.heap.size → B.heap[b]? = A.heap[b]? := fun b hb => hg.block b (by omega) (fun e => by have := (hr b e.symm).1; omega)
      exact ⟨⟨v, (nb _ (by omega)).trans a1, row_book a2 hg fun r e => (hr r e).2⟩, grown_own a3 hg fun r e => by have := (hr r e).1; omega, Nat.le_trans a4 hg.size, (nb _ (by omega)).trans a5, (nb _ (by omega)).trans a6, (nb _ (by omega)).trans a7, (nb _ (by omega)).trans a8, (nb _ (by omega)).trans a9⟩
    case hAx2 =>
      rintro y af _ A B row ⟨By, c1, c2, c3⟩ hg hr
      exact ⟨By, c1, (hg.block By (blk_lt c2) (fun e => by obtain ⟨_, o, ho, hc⟩ := hr By e.symm; rw [show A.heap[By]? = _ from c2] at ho; cases ho; simp [T.book] at hc)).trans c2, c3⟩
    case assign2 =>
      rintro pr y A K _ _ hA hK
      gi_wp2
      exact hK _ _ ((Up.refl A).alloc _) ⟨A.heap.size, hA, blk_new _ _ _ rfl, rfl⟩
    case body2 =>
      rintro pr y af Y hpr ⟨⟨v, a1, a2⟩, a3, a4, a5, a6, a7, a8, a9⟩ ⟨By, c1, c2, rfl⟩ hzY ⟨r3, hr3⟩
      refine wpIn_hid fun G2 hG2 => ?_
      have hy : y ∈ T.moms nR H := by
        obtain ⟨t, ht⟩ := hpr
        rw [← ht]; simp
      have hpl := T.pre_lt hpr
      have hpl0 := T.pre_lt hpre
      have hy64 := HK.out.dom y hy
      have HKY := Lib.hid (HK.out.other (fun b hb hc => a3.block b hb (fun e => by
        have e4 := Option.some.inj e
        have := hK3.out b hc
        omega)))
      have l5 := blk_lt a5
      have l2 := blk_lt c2
      have lw := blk_lt a1
      cases hk : (T.stage nR H rs os ps b0 b1 b2 b3 b4 4) x y with
      | none =>
        have hlo := (HKY.out.inn x hx).no hy64 hk
        have HE := Lib.hid (show T.rowT (T.stage nR H rs os ps b0 b1 b2 b3 b4 4) x (pr ++ [y]) = T.rowT (T.stage nR H rs os ps b0 b1 b2 b3 b4 4) x pr by rw [T.rowT_snoc, hk]; simp)
        clear hk
        gi_wp2
        refine S.nrm_intro (hG2.out _ _ ?_)
        obtain ⟨Z, hZ⟩ : ∃ z, Y.alloc (.cells #[.int .i64 0, .int .i64 0] 34) = z := ⟨_, rfl⟩
        have u : Up Y Z := by rw [← hZ]; exact (Up.refl Y).alloc _
        rw [hZ]
        exact ⟨fun b o hb _ => (Below.block u b (Array.getElem?_eq_some_iff.1 hb).1).trans hb, u.size, ⟨v, u.blk a1, by rw [HE.out]; exact row_up a2 u⟩, grown_trans a3 (up_grown u _), Nat.le_trans a4 u.size, u.blk a5, u.blk a6, u.blk a7, (Below.block u _ (Array.getElem?_eq_some_iff.1 a8).1).trans a8, (Below.block u _ (Array.getElem?_eq_some_iff.1 a9).1).trans a9⟩
      | some s0 =>
        have hlo := (HKY.out.inn x hx).yes hy64 hk
        have HE := Lib.hid (show T.rowT (T.stage nR H rs os ps b0 b1 b2 b3 b4 4) x (pr ++ [y]) = T.rowT (T.stage nR H rs os ps b0 b1 b2 b3 b4 4) x pr ++ [(x.1, x.2, y.1, y.2, s0.1, s0.2)] by rw [T.rowT_snoc, hk])
        clear hk
        have hlen : (T.tiesT (T.stage nR H rs os ps b0 b1 b2 b3 b4 4) (T.moms nR H) pre ++ T.rowT (T.stage nR H rs os ps b0 b1 b2 b3 b4 4) x pr).length ≤ 5000 := by
          rw [List.length_append]
          have q1 := T.tiesT_len (T.stage nR H rs os ps b0 b1 b2 b3 b4 4) (T.moms nR H) pre
          have q2 := T.rowT_len (T.stage nR H rs os ps b0 b1 b2 b3 b4 4) x pr
          have q3 := Nat.mul_le_mul (show pre.length ≤ 69 by omega) hml
          omega
        obtain ⟨xs, hxs⟩ : ∃ l, T.tiesT (T.stage nR H rs os ps b0 b1 b2 b3 b4 4) (T.moms nR H) pre ++ T.rowT (T.stage nR H rs os ps b0 b1 b2 b3 b4 4) x pr = l := ⟨_, rfl⟩
        replace HE := Lib.hid (show T.tiesT (T.stage nR H rs os ps b0 b1 b2 b3 b4 4) (T.moms nR H) pre ++ T.rowT (T.stage nR H rs os ps b0 b1 b2 b3 b4 4) x (pr ++ [y]) = xs ++ [(x.1, x.2, y.1, y.2, s0.1, s0.2)] by rw [HE.out, ← List.append_assoc, hxs])
        rw [hxs] at a2 hlen
        obtain ⟨i0, hi, hz0, hz1, hz2⟩ := info_parts infoTie
        have hU := Try.underlying80
        have f1 := frozB a1
        obtain ⟨va, vc, rfl, vc1, vc2⟩ := row_val a2
        obtain ⟨s1, s2⟩ := s0
        obtain ⟨x1, x2⟩ := x
        obtain ⟨y1', y2'⟩ := y
        simp only at HE hlo a6 c2
        clear hx hy hxs
        have HA2 := Lib.hid a2
        gi_wp2_with (gi_at_builtin; refine wpListIn_append_own _ rfl (.tmp 32) (.tmp 37) 80 rfl (W3.heap.size + 2) 125 i0 (.agg #[.int .i64 0, .int .i64 0, .int .i64 0, .int .i64 0, .int .i64 0, .int .i64 0]) 6 48 hU hi hz0 hz1 hz2 rfl (by decide) _ xs.length _ rfl ((a2.alloc _).alloc _) ⟨Y.heap.size + 1, 0, none⟩ 1 1 [.int .i64 x1, .int .i64 x2, .int .i64 y1', .int .i64 y2', .int .i64 s1, .int .i64 s2] rfl rfl (cells_new _ (by simp) _) (by simp [Value.oneCell']) (by unfold maxLen; omega) (by omega) (by simp; omega) ?_; intro v' w5 hown5 hgrow5 hv5; obtain ⟨g5, cap5, rfl, hg5⟩ := row_slice hown5; have x5 := grown_blk hgrow5 (blk_keep _ (blk_keep _ a1)) (row_block a2 (by omega)); have f5 := frozB x5; have l5 := blk_lt x5)
        refine S.nrm_intro (hG2.out _ _ ?_)
        obtain ⟨Y2, hY2⟩ : ∃ z, (Y.alloc (.cells #[.int .i64 s1, .int .i64 s2] 34)).alloc (.cells #[.int .i64 x1, .int .i64 x2, .int .i64 y1', .int .i64 y2', .int .i64 s1, .int .i64 s2] 125) = z := ⟨_, rfl⟩
        rw [hY2] at hgrow5
        have u : Up Y Y2 := by rw [← hY2]; exact ((Up.refl Y).alloc _).alloc _
        obtain ⟨Z, hZ⟩ : ∃ z, w5.setCell ⟨q4, 9, none⟩ (.slice (some ⟨g5, 0, none⟩) (xs.length + 1) cap5) = z := ⟨_, rfl⟩
        have gS : w5.grownBy Z (some q4) := by rw [← hZ]; exact grown_set w5 q4 9 _
        have a1Z : mblk Z q4 = some (.cells (WeC H (.slice aR nR cR) (.slice aO nO cO) (.slice aP nP cP) b0 b1 b2 b3 b4 (.slice (some ⟨g5, 0, none⟩) (xs.length + 1) cap5)) 82 (0, 0)) := by rw [← hZ]; exact blk_put x5 9 _
        have H5 := ownsRow_setCell_other hown5 (a := ⟨q4, 9, none⟩) (by show some g5 ≠ some q4; intro e; have := Option.some.inj e; omega) (.slice (some ⟨g5, 0, none⟩) (xs.length + 1) cap5)
        rw [hZ] at H5 ⊢
        have a2' := HA2.out
        have kb : ∀ b o, Y.heap[b]? = some o → b ≠ q4 → some b ≠ (Value.slice va xs.length vc).ownBlock → Z.heap[b]? = some o := fun b o hb n1 n2 => by
          have t1 := (Below.block u b (Array.getElem?_eq_some_iff.1 hb).1).trans hb
          have t2 := (hgrow5.block b (Array.getElem?_eq_some_iff.1 t1).1 n2).trans t1
          exact (gS.block b (Array.getElem?_eq_some_iff.1 t2).1 (fun e => n1 (Option.some.inj e))).trans t2
        have z1 := u.size
        have z2 := hgrow5.size
        have z3 := gS.size
        have a3Z := grown_trans (grown_own (grown_trans a3 (up_grown u (some q4))) hgrow5 fun r e => by have := row_base a2' r e; omega) gS
        have n6 := row_ne a2' a5 (fun cs e => by cases e)
        have nB := row_ne a2' a6 (fun cs e => by cases e)
        have nj := row_ne a2' a7 (fun cs e => by cases e)
        have nr := row_ne a2' hr3 (fun cs e => by cases e)
        have kqj := kb _ _ a7 (by omega) nj
        have kd1 := kb _ _ a8 (by omega) (row_block a2' (by omega))
        have kd2 := kb _ _ a9 (by omega) (row_block a2' (by omega))
        refine ⟨fun b o hb hn => ?_, by omega, ⟨_, a1Z, ?_⟩, a3Z, by omega, kb _ _ a5 (by omega) n6, kb _ _ a6 (by omega) nB, kqj, kd1, kd2⟩
        · have hc : b = qj ∨ b = qi ∨ b = W3.heap.size ∨ b = W3.heap.size + 1 ∨ b = X2.heap.size := by omega
          rcases hc with rfl | rfl | rfl | rfl | rfl
          · exact kb _ _ hb (by omega) nj
          · exact kb _ _ hb (by omega) (row_block a2' (by omega))
          · exact kb _ _ hb (by omega) (row_block a2' (by omega))
          · exact kb _ _ hb (by omega) (row_block a2' (by omega))
          · exact kb _ _ hb (by omega) nr
        · rw [HE.out, T.flat_app, List.length_append]
          exact H5
    case done2 =>
      rintro Y ⟨⟨v, a1, a2⟩, a3, a4, a5, a6, a7, a8, a9⟩ hzY
      have hbX := Lib.hid (show ∀ b o, X.heap[b]? = some o → ¬((b ≠ qi ∧ b ≠ W3.heap.size) ∧ b ≠ W3.heap.size + 1) → Y.heap[b]? = some o from fun b o hb hn => by
        have hc : b = qi ∨ b = W3.heap.size ∨ b = W3.heap.size + 1 := by omega
        rcases hc with rfl | rfl | rfl
        · have e1 := h3.block b (by omega) (fun e => by have := Option.some.inj e; omega)
          have e2 := a3.block b (by omega) (fun e => by have := Option.some.inj e; omega)
          exact e2.trans (e1.symm.trans hb)
        · have e1 := (Below.block vv _ (Array.getElem?_eq_some_iff.1 hb).1).trans hb
          rw [hob] at e1
          rw [a8]; exact e1
        · rw [hr] at hb
          rw [a9]; exact hb)
      gi_wp2
      exact hG.out _ _ ⟨hbX.out, by omega, ⟨v, a1, by rw [T.tiesT_snoc]; exact a2⟩, a3⟩
  case done =>
    rintro X ⟨⟨v, h1, h2⟩, h3⟩ hz hd
    have hlen : (T.tiesT (T.stage nR H rs os ps b0 b1 b2 b3 b4 4) (T.moms nR H) (T.moms nR H)).length ≤ 5000 := by
      have q1 := T.tiesT_len (T.stage nR H rs os ps b0 b1 b2 b3 b4 4) (T.moms nR H) (T.moms nR H)
      have q2 := Nat.mul_le_mul hml hml
      omega
    obtain ⟨ts, hts⟩ : ∃ l, T.tiesT (T.stage nR H rs os ps b0 b1 b2 b3 b4 4) (T.moms nR H) (T.moms nR H) = l := ⟨_, rfl⟩
    rw [hts] at h2 hlen
    have HTS := Lib.hid hts
    obtain ⟨va, vc, rfl, vc1, vc2⟩ := row_val h2
    replace kR := grown_blk h3 kR (fun e => by have := Option.some.inj e; omega)
    have UX := UW.grown h3 (fun k e => by have := Option.some.inj e; omega)
    have HT := Lib.hid h2
    have zX := h3.size
    have fR := frozB kR
    have cQ := cellB kR
    have lR := blk_lt kR
    have l1 := blk_lt h1
    clear hts h2 kC kM kW ki hK3 hKlt
    gi_wp2_with fail
    obtain ⟨Z, hZ⟩ : ∃ z, ((((((((((X.setCell ⟨q1, 0, none⟩ (.int .i64 H)).setCell ⟨q1, 1, none⟩ (.slice aR nR cR)).setCell ⟨q1, 2, none⟩ (.slice aO nO cO)).setCell ⟨q1, 3, none⟩ (.slice aP nP cP)).setCell ⟨q1, 4, none⟩ (.bool b0)).setCell ⟨q1, 5, none⟩ (.bool b1)).setCell ⟨q1, 6, none⟩ (.bool b2)).setCell ⟨q1, 7, none⟩ (.bool b3)).setCell ⟨q1, 8, none⟩ (.bool b4)).setCell ⟨q1, 9, none⟩ (.slice va ts.length vc)) = z := ⟨_, rfl⟩
    have gZ : X.grownBy Z (some q1) := by rw [← hZ]; exact grown10 X q1 _ _ _ _ _ _ _ _ _ _
    have kZ : mblk Z q1 = some (.cells (WeC H (.slice aR nR cR) (.slice aO nO cO) (.slice aP nP cP) b0 b1 b2 b3 b4 (.slice va ts.length vc)) 82 (0, 0)) := by rw [← hZ]; exact set10 kR _ _ _ _ _ _ _ _ _ _
    have hT2 := HT.out.kept gZ (.inr (fun e => row_block HT.out (b := q1) (by omega) e.symm))
    have dZ := (gZ.block _ (Array.getElem?_eq_some_iff.1 hd).1 (fun e => by have := Option.some.inj e; omega)).trans hd
    have UZ := UX.grown gZ (fun k e => by have := Option.some.inj e; omega)
    rw [hZ]
    clear hZ gZ fR cQ kR HT
    refine leaves_marks [W3.heap.size] Z (by simp) (fun d hm => by rw [List.mem_singleton] at hm; subst hm; exact dZ) (fun W' a1 a2 a3 a4 a5 => ?_)
    have nb : ∀ b, b ≠ W3.heap.size → W'.heap[b]? = Z.heap[b]? := fun b hb => a5 b (by simpa using hb)
    have gW : Z.grownBy W' (some W3.heap.size) := ⟨a1, a2, a3, by omega, fun k _ hk => nb k (fun e => hk (by rw [e]))⟩
    have hT3 := row_book hT2 gW (fun r e => by have := Option.some.inj e; subst this; exact ⟨_, dZ, rfl⟩)
    have cW := cellB (show mblk W' q1 = _ from (nb q1 (by omega)).trans kZ)
    have hTab := Tab.of_row (d := (0, 0, 0, 0, 0, 0)) hT3 (by omega) (by omega)
    refine ⟨WeV H (.slice aR nR cR) (.slice aO nO cO) (.slice aP nP cP) b0 b1 b2 b3 b4 (.slice va ts.length vc), by simp [results, Try.results71, go_sem, cW], ⟨va, ts.length, vc, rfl, by unfold T.web; rw [HTS.out]; exact hTab⟩, a1.trans UZ.os, a2.trans UZ.tape, a3.trans UZ.output, by rw [a4]; exact UZ.size, fun b hb => (nb b (by omega)).trans (Below.block UZ b hb)⟩
end

end Go.Proofs.Ytcmdaiklkdeanaa
