import Derived.Test.YtcmdaiklkdeanaaNar
/- The contract of farthest, to each side. -/
namespace Go.Proofs.Ytcmdaiklkdeanaa
open Go.RowKit Go.Shelf
attribute [local go_sem] Oper.semAt_some

/-- the offsets with which it begins -/
def T.o0 (D : List (Int × Int)) (m0 : Int × Int) : Int × Int → Int := fun m => if m = m0 then 0 else if m ∈ D then 200000 else 0
/-- so many rounds -/
def T.it (f : Int × Int → Int) (ts : List T.T6) (o : Int × Int → Int) : Nat → Int × Int → Int
  | 0 => o
  | k + 1 => T.rlxAll f (T.it f ts o k) ts
def T.same (o o' : Int × Int → Int) : Prop := ∀ m, T.in6 m → o m = o' m
theorem T.it_bnd {f : Int × Int → Int} {ts : List T.T6} {o : Int × Int → Int} (h : T.Bnd 0 200000 o) (hts : ∀ t ∈ ts, T.in6 (T.one t) ∧ T.in6 (T.oth t) ∧ -10000000 ≤ f (T.by t)) (hl : ts.length ≤ 5000) : ∀ k : Nat, T.Bnd (-(50000000000 * k)) 200000 (T.it f ts o k)
  | 0 => by simpa [T.it] using h
  | k + 1 => fun m hm => by
    have q := ((T.it_bnd h hts hl k).all (by omega) hts) m hm
    have : (10000000 : Int) * ts.length ≤ 50000000000 := by omega
    rw [show T.it f ts o (k + 1) = T.rlxAll f (T.it f ts o k) ts from rfl]
    omega
theorem T.o0_bnd (D : List (Int × Int)) (m0 : Int × Int) : T.Bnd 0 200000 (T.o0 D m0) := fun m _ => by
  unfold T.o0
  split
  · omega
  · split <;> omega
/-- what farthest tells -/
def T.FarIs (f : Int × Int → Int) (ts : List T.T6) (o : Int × Int → Int) (n : Nat) (cs : Array Value) (r : Bool) : Prop :=
  (r = true ∧ ∃ j, j < n ∧ T.same (T.it f ts o (j + 1)) (T.it f ts o j) ∧ T.OC cs (T.it f ts o (j + 1))) ∨ (r = false ∧ cs = OZ ∧ ∀ j, j < n → ¬ T.same (T.it f ts o (j + 1)) (T.it f ts o j))

/-- the first offsets, so far -/
def T.ini (pre : List (Int × Int)) : Int × Int → Int := fun m => if m ∈ pre then 200000 else 0
theorem T.ini_snoc {cs : Array Value} {pre : List (Int × Int)} {x : Int × Int} (h : T.OC cs (T.ini pre)) (hx : T.in6 x) : T.OC (cs.setIfInBounds (T.pl x) (.int .i64 200000)) (T.ini (pre ++ [x])) := by
  have q := h.put hx 200000
  have e : T.put (T.ini pre) x 200000 = T.ini (pre ++ [x]) := by
    funext m
    unfold T.put T.ini
    by_cases e : m = x
    · simp [e]
    · simp [e]
  rw [← e]; exact q
theorem T.ini_o0 {cs : Array Value} {D : List (Int × Int)} {x : Int × Int} (h : T.OC cs (T.ini D)) (hx : T.in6 x) : T.OC (cs.setIfInBounds (T.pl x) (.int .i64 0)) (T.o0 D x) := h.put hx 0
theorem T.moms_in {n H : Nat} (hn : n ≤ 5) (hH : H ≤ 12) {m : Int × Int} (h : m ∈ T.moms n H) : T.in6 m := by
  obtain ⟨c, k⟩ := m
  rcases T.mem_moms.1 h with ⟨rfl, rfl⟩ | ⟨⟨a, b⟩, d, e⟩
  · exact ⟨⟨by show (-1 : Int) ≤ -1; omega, by show (-1 : Int) ≤ 4; omega⟩, by show (0 : Int) ≤ 0; omega, by show (0 : Int) ≤ 12; omega⟩
  · exact ⟨⟨by show -1 ≤ c; omega, by show c ≤ 4; omega⟩, by show 0 ≤ k; omega, by show k ≤ 12; omega⟩
/-- one row may have changed, and new memory been laid -/
theorem grown_own {a b c : World} {q : Nat} {row : Option Nat} (h : a.grownBy b (some q)) (k : b.grownBy c row) (hr : ∀ r, row = some r → a.heap.size ≤ r) : a.grownBy c (some q) :=
  ⟨k.os.trans h.os, k.tape.trans h.tape, k.output.trans h.output, Nat.le_trans h.size k.size, fun i hi hne => (k.block i (Nat.lt_of_lt_of_le hi h.size) (fun e => by have := hr i e.symm; omega)).trans (h.block i hi hne)⟩
theorem grown_set (w : World) (b j : Nat) (v : Value) : w.grownBy (w.setCell ⟨b, j, none⟩ v) (some b) := ⟨rfl, rfl, rfl, by simp [World.setCell], fun k _ hk => Below.heap_setCell _ _ _ _ (fun e => hk (by rw [e]))⟩
theorem OZ_is : Try.zeroCells87 = OZ := by kernel_rfl
theorem grown_row (w : World) (b : Nat) (cs : Array Value) : w.grownBy (w.setRow b cs) (some b) := ⟨rfl, rfl, rfl, by simp [World.setRow], fun k _ hk => by
  simp only [World.setRow, Array.getElem?_modify]
  rw [if_neg (fun e => hk (by rw [e]))]⟩
theorem results_2c {fn : Func} {p u : Tmp} {t : TypeId} (h : fn.results = #[.cell p 87, .cell u t]) (tmps : Array Value) (w : World) (g g' : Nat) (cs : Array Value) (v : Value) (hp : tmps.getD p undef = .pointer (some ⟨g, 0, none⟩)) (hg : mblk w g = some (.cells cs 87 (0, 0))) (hs : cs.size = 78) (hu : tmps.getD u undef = .pointer (some ⟨g', 0, none⟩)) (hv : (loadVar t ⟨g', 0, none⟩).run Try.prog w = .ok v w) :
    (results fn tmps).run Try.prog w = .ok (.tuple #[.agg cs, v]) w := by
  have q := run_loadVar_row w g 87 87 cs (0, 0) _ hg Try.underlying87 rfl (by rw [Try.infoOff, hs])
  have hp' : tmps[p]?.getD undef = .pointer (some ⟨g, 0, none⟩) := by simpa using hp
  have hu' : tmps[u]?.getD undef = .pointer (some ⟨g', 0, none⟩) := by simpa using hu
  simp only [results, h]
  simp [Sem.run_bind, Result.andThen, hp', hu', asAddr, q, hv]
theorem load_bool {w : World} {g : Nat} {r : Bool} {fr : Nat × Nat} (h : mblk w g = some (.cells #[.bool r] 4 fr)) : (loadVar 4 ⟨g, 0, none⟩).run Try.prog w = .ok (.bool r) w := by
  have c := cellB h
  simp [loadVar, go_sem, c]

section
variable {H : Nat} {aR aO aP aT : Option Addr} {nR cR nO cO nP cP nT cT : Nat} {b0 b1 b2 b3 b4 : Bool}

set_option maxRecDepth 100000 in
set_option maxHeartbeats 2000000 in
theorem farthest_ah {w : World} (hH : H ≤ 12) (hR : nR ≤ 5) {ts : List T.T6} {m0 : Int × Int} (I : Tis w (.slice aT nT cT) ts) (hts : T.Tok ts) (hl : ts.length ≤ 5000) (hm0 : T.in6 m0) :
    Calls Try.prog 56 #[WeV H (.slice aR nR cR) (.slice aO nO cO) (.slice aP nP cP) b0 b1 b2 b3 b4 (.slice aT nT cT), MoV m0.1 m0.2, AhV] w fun e w' => (∃ cs r, e = .returned (.tuple #[.agg cs, .bool r]) ∧ T.FarIs T.sHi ts (T.o0 (T.moms nR H) m0) (T.moms nR H).length cs r) ∧ Up w w' := by
  have HI := Lib.hid I
  have HT := Lib.hid hts
  have HM0 := Lib.hid hm0
  have hml := T.moms_len hR hH
  clear I hts hm0
  obtain ⟨c0, h0⟩ := m0
  refine (callsIn_wide (n := 5)).1 ?_
  refine callsIn_of_wp_marks Try.func56 rfl trivial ?_ rfl
  simp only [Try.ntmps56, List.size_toArray, List.length_cons, List.length_nil, Nat.reduceAdd, Nat.reduceSub, Array.replicate_succ, Array.replicate_zero, List.push_toArray, List.append_toArray, List.nil_append, List.cons_append]
  gi_wp2_with fail
  obtain ⟨W0, hW0⟩ : ∃ x, (((((w.alloc (.cells (WeC H (.slice aR nR cR) (.slice aO nO cO) (.slice aP nP cP) b0 b1 b2 b3 b4 (.slice aT nT cT)) 82)).alloc (.cells #[.int .i64 c0, .int .i64 h0] 100)).alloc (.cells #[.func (.func 96) #[] #[], .int .i64 1] 104)).alloc (.cells OZ 87)).alloc (.cells #[.bool false] 4)).alloc (.cells OZ 87) = x := ⟨_, rfl⟩
  obtain ⟨q0, e0⟩ : ∃ x, w.heap.size = x := ⟨_, rfl⟩
  obtain ⟨q1, e1⟩ : ∃ x, q0 + 1 = x := ⟨_, rfl⟩
  obtain ⟨q2, e2⟩ : ∃ x, q1 + 1 = x := ⟨_, rfl⟩
  obtain ⟨q3, e3⟩ : ∃ x, q2 + 1 = x := ⟨_, rfl⟩
  obtain ⟨q4, e4⟩ : ∃ x, q3 + 1 = x := ⟨_, rfl⟩
  obtain ⟨q5, e5⟩ : ∃ x, q4 + 1 = x := ⟨_, rfl⟩
  have U0 : Up w W0 := by rw [← hW0]; exact ((((((Up.refl w).alloc _).alloc _).alloc _).alloc _).alloc _).alloc _
  have kW : mblk W0 q0 = some (.cells (WeC H (.slice aR nR cR) (.slice aO nO cO) (.slice aP nP cP) b0 b1 b2 b3 b4 (.slice aT nT cT)) 82 (0, 0)) := by rw [← hW0]; exact blk_keep _ (blk_keep _ (blk_keep _ (blk_keep _ (blk_keep _ (blk_new _ _ _ e0.symm)))))
  have kF : mblk W0 q1 = some (.cells #[.int .i64 c0, .int .i64 h0] 100 (0, 0)) := by rw [← hW0]; exact blk_keep _ (blk_keep _ (blk_keep _ (blk_keep _ (blk_new _ _ _ (by simp; omega)))))
  have kS : mblk W0 q2 = some (.cells #[.func (.func 96) #[] #[], .int .i64 1] 104 (0, 0)) := by rw [← hW0]; exact blk_keep _ (blk_keep _ (blk_keep _ (blk_new _ _ _ (by simp; omega))))
  have kR : mblk W0 q3 = some (.cells OZ 87 (0, 0)) := by rw [← hW0]; exact blk_keep _ (blk_keep _ (blk_new _ _ _ (by simp; omega)))
  have kB : mblk W0 q4 = some (.cells #[.bool false] 4 (0, 0)) := by rw [← hW0]; exact blk_keep _ (blk_new _ _ _ (by simp; omega))
  have kN : mblk W0 q5 = some (.cells OZ 87 (0, 0)) := by rw [← hW0]; exact blk_new _ _ _ (by simp; omega)
  have z0 : W0.heap.size = q5 + 1 := by rw [← hW0]; simp; omega
  rw [hW0, e0, e1, e2, e3, e4, e5]
  clear hW0
  refine ⟨trivial, (callsIn_wide.2 (moments_any _)).mono ?_⟩
  rintro e W1 ⟨rfl, hW1⟩
  obtain ⟨qi, ei⟩ : ∃ x, W0.heap.size = x := ⟨_, rfl⟩
  have U1 : Up W0 W1 := by rw [← hW1]; exact (Up.refl W0).alloc _
  have ki : mblk W1 qi = some (.cells (CeC H (.slice aR nR cR) (.slice aO nO cO) (.slice aP nP cP) b0 b1 b2 b3 b4) 79 (0, 0)) := by rw [← hW1]; exact blk_new W0 (.cells (CeC H (.slice aR nR cR) (.slice aO nO cO) (.slice aP nP cP) b0 b1 b2 b3 b4) 79) _ ei.symm
  have z1 : W1.heap.size = qi + 1 := by rw [← hW1]; simp; omega
  replace kW := U1.blk kW
  replace kF := U1.blk kF
  replace kS := U1.blk kS
  replace kR := U1.blk kR
  replace kB := U1.blk kB
  replace kN := U1.blk kN
  have UW := U0.trans U1
  rw [ei]
  clear hW1 U0 U1
  gi_wp2_with fail
  refine T.rangeAll (p := fun b => b = q5 ∨ b = W1.heap.size + 1) rfl (enters_of Try.func98 (by kernel_rfl) rfl) (enc := fun x : Int × Int => #[MoV x.1 x.2]) (fun _ => rfl)
    (moments_seq hH hR (fun e => by omega) ki) (.inr rfl) (fun e => by omega) (fun b hb e => by omega)
    (fun pre X => (∃ ck, mblk X q5 = some (.cells ck 87 (0, 0)) ∧ T.OC ck (T.ini pre)) ∧ W1.grownBy X (some q5)) ?hI ⟨⟨OZ, kN, OZ_oc⟩, up_grown (Up.refl W1) _⟩
    (fun x af X => ∃ Bx, W1.heap.size + 2 ≤ Bx ∧ mblk X Bx = some (.cells #[.int .i64 x.1, .int .i64 x.2] 100 (0, 0)) ∧ af = { tmps := List.toArray ((WeV H (.slice aR nR cR) (.slice aO nO cO) (.slice aP nP cP) b0 b1 b2 b3 b4 (.slice aT nT cT) : Value) :: MoV c0 h0 :: AhV :: .pointer (some ⟨q0, 0, none⟩) :: .pointer (some ⟨q1, 0, none⟩) :: .pointer (some ⟨q2, 0, none⟩) :: .pointer (some ⟨q3, 0, none⟩) :: .pointer (some ⟨q4, 0, none⟩) :: .pointer (some ⟨q5, 0, none⟩) :: .pointer (some ⟨Bx, 0, none⟩) :: undef :: .pointer (some ⟨q0, 0, none⟩) :: CeV H (.slice aR nR cR) (.slice aO nO cO) (.slice aP nP cP) b0 b1 b2 b3 b4 :: .func (.func 98) #[] #[.pointer (some ⟨qi, 0, none⟩)] :: MoV x.1 x.2 :: undef :: undef :: undef :: undef :: undef :: undef :: undef :: undef :: undef :: undef :: undef :: undef :: undef :: undef :: undef :: undef :: undef :: undef :: undef :: []), defers := [] }) ?hAx ?assign ?body ?done
  case hI =>
    rintro pre X Y row ⟨⟨ck, h1, h2⟩, h3⟩ hg hr
    exact ⟨⟨ck, (hg.block _ (blk_lt h1) (fun e => by have := (hr _ e.symm).1; omega)).trans h1, h2⟩, grown_own h3 hg fun r e => (hr r e).1⟩
  case hAx =>
    rintro x af _ X Y row ⟨Bx, h1, h2, h3⟩ hg hr
    exact ⟨Bx, h1, (hg.block Bx (blk_lt h2) (fun e => by obtain ⟨_, o, ho, hc⟩ := hr Bx e.symm; rw [show X.heap[Bx]? = _ from h2] at ho; cases ho; simp [T.book] at hc)).trans h2, h3⟩
  case assign =>
    rintro pre x X K _ _ hX hK
    gi_wp2
    exact hK _ _ ((Up.refl X).alloc _) ⟨X.heap.size, hX, blk_new _ _ _ rfl, rfl⟩
  case body =>
    rintro pre x af X hpre ⟨⟨ck, h1, h2⟩, h3⟩ ⟨Bx, x1, x2, rfl⟩ hz ⟨r, hr⟩
    have hin : T.in6 x := by
      obtain ⟨t, ht⟩ := hpre
      exact T.moms_in hR hH (by rw [← ht]; simp)
    have HO2 := Lib.hid (T.ini_snoc h2 hin)
    have HP := Lib.hid (fun w => oat_any (B := q5) (w := w) hin)
    have hlt := hin.lt
    have hsz := h2.size
    obtain ⟨px, hpx⟩ : ∃ y, T.pl x = y := ⟨_, rfl⟩
    rw [hpx] at HO2 HP hlt
    clear h2 hpre
    gi_wp2_with fail
    refine ⟨trivial, (CallsIn.inRound _ (callsIn_wide.2 (HP.out _))).mono ?_⟩
    rintro e y1 ⟨rfl, u1⟩
    have k1 := u1.blk h1
    have f1 := frozB k1
    have l1 : px < ck.size := by omega
    have cx : ∃ v, y1.cell? ⟨q5, px, none⟩ = some v := ⟨_, (cellB k1 px).trans (Array.getElem?_eq_getElem l1)⟩
    obtain ⟨vx, cx⟩ := cx
    clear HP
    gi_wp2
    have uX := up_grown u1 (some q5)
    have g2 := grown_set y1 q5 px (.int .i64 200000)
    refine ⟨fun b o hb hnp => ?_, Nat.le_trans u1.size g2.size, ⟨_, blk_put k1 px _, HO2.out⟩, grown_trans (grown_trans h3 uX) g2⟩
    have hlb := (Array.getElem?_eq_some_iff.1 hb).1
    have := u1.size
    exact (g2.block b (by omega) (fun e => hnp ⟨.inl (Option.some.inj e), by have := Option.some.inj e; omega⟩)).trans ((Below.block u1 b hlb).trans hb)
  case done =>
    rintro X ⟨⟨ck, h1, h2⟩, h3⟩ hz hd
    have nq : ∀ b, b < qi → b ≠ q5 → some b ≠ some q5 := fun b _ h e => h (Option.some.inj e)
    replace kW := grown_blk h3 kW (nq _ (by omega) (by omega))
    replace kF := grown_blk h3 kF (nq _ (by omega) (by omega))
    replace kS := grown_blk h3 kS (nq _ (by omega) (by omega))
    replace kR := grown_blk h3 kR (nq _ (by omega) (by omega))
    replace kB := grown_blk h3 kB (nq _ (by omega) (by omega))
    have UX := UW.grown h3 (fun k e => by have := Option.some.inj e; omega)
    have HP := Lib.hid (fun w => oat_any (B := q5) (w := w) HM0.out)
    have HO2 := Lib.hid (T.ini_o0 h2 HM0.out)
    have hlt := HM0.out.lt
    have hsz := h2.size
    obtain ⟨px, hpx⟩ : ∃ y, T.pl (c0, h0) = y := ⟨_, rfl⟩
    rw [hpx] at HO2 HP hlt
    obtain ⟨d1, ed1⟩ : ∃ x, W1.heap.size = x := ⟨_, rfl⟩
    rw [ed1] at hd hz ⊢
    have zX := h3.size
    clear nq h3 h2 UW kN ki
    gi_wp2_with fail
    refine ⟨trivial, (callsIn_wide.2 (HP.out _)).mono ?_⟩
    rintro e y1 ⟨rfl, u1⟩
    replace kW := u1.blk kW
    replace kF := u1.blk kF
    replace kS := u1.blk kS
    replace kR := u1.blk kR
    replace kB := u1.blk kB
    replace hd := (Below.block u1 _ (Array.getElem?_eq_some_iff.1 hd).1).trans hd
    have k1 := u1.blk h1
    have f1 := frozB k1
    have l1 : px < ck.size := by omega
    have cx : ∃ v, y1.cell? ⟨q5, px, none⟩ = some v := ⟨_, (cellB k1 px).trans (Array.getElem?_eq_getElem l1)⟩
    obtain ⟨vx, cx⟩ := cx
    have Uy := UX.trans u1
    have zy := u1.size
    clear HP h1 UX u1
    gi_wp2_with fail
    obtain ⟨X2, hX2⟩ : ∃ x, y1.setCell ⟨q5, px, none⟩ (.int .i64 0) = x := ⟨_, rfl⟩
    have kN : mblk X2 q5 = some (.cells (ck.setIfInBounds px (.int .i64 0)) 87 (0, 0)) := by rw [← hX2]; exact blk_put k1 px _
    have g2 : y1.grownBy X2 (some q5) := by rw [← hX2]; exact grown_set y1 q5 px (.int .i64 0)
    replace kW := grown_blk g2 kW (fun e => by have := Option.some.inj e; omega)
    replace kF := grown_blk g2 kF (fun e => by have := Option.some.inj e; omega)
    replace kS := grown_blk g2 kS (fun e => by have := Option.some.inj e; omega)
    replace kR := grown_blk g2 kR (fun e => by have := Option.some.inj e; omega)
    replace kB := grown_blk g2 kB (fun e => by have := Option.some.inj e; omega)
    replace hd := (g2.block _ (Array.getElem?_eq_some_iff.1 hd).1 (fun e => by have := Option.some.inj e; omega)).trans hd
    have UX := Uy.grown g2 (fun k e => by have := Option.some.inj e; omega)
    have zX2 := g2.size
    obtain ⟨cN, hcN⟩ : ∃ x, ck.setIfInBounds px (.int .i64 0) = x := ⟨_, rfl⟩
    rw [hcN] at HO2 kN
    rw [hX2]
    clear hX2 k1 f1 cx g2 Uy hcN hsz l1 hlt
    refine ⟨trivial, (callsIn_wide.2 (moments_any _)).mono ?_⟩
    rintro e W2 ⟨rfl, hW2⟩
    obtain ⟨qj, ej⟩ : ∃ x, X2.heap.size = x := ⟨_, rfl⟩
    have U2 : Up X2 W2 := by rw [← hW2]; exact (Up.refl X2).alloc _
    have ki : mblk W2 qj = some (.cells (CeC H (.slice aR nR cR) (.slice aO nO cO) (.slice aP nP cP) b0 b1 b2 b3 b4) 79 (0, 0)) := by rw [← hW2]; exact blk_new X2 (.cells (CeC H (.slice aR nR cR) (.slice aO nO cO) (.slice aP nP cP) b0 b1 b2 b3 b4) 79) _ ej.symm
    have z2 : W2.heap.size = qj + 1 := by rw [← hW2]; simp; omega
    replace kW := U2.blk kW
    replace kF := U2.blk kF
    replace kS := U2.blk kS
    replace kR := U2.blk kR
    replace kB := U2.blk kB
    replace kN := U2.blk kN
    replace hd := (Below.block U2 _ (Array.getElem?_eq_some_iff.1 hd).1).trans hd
    have UW := UX.trans U2
    rw [ej]
    clear hW2 UX U2
    gi_wp2_with fail
    have HBND := Lib.hid (fun k => T.it_bnd (T.o0_bnd (T.moms nR H) (c0, h0)) HT.out.hi hl k)
    refine wpIn_rangeFunc_ownH (F := Fence.wide) (n := 5) rfl (by omega) (gf := 98) (lb := #[.pointer (some ⟨qj, 0, none⟩)]) rfl trivial (enters_of Try.func98 (by kernel_rfl) rfl)
      (moments_stops hH hR (m := 5 - 1) (by omega) (p := fun b => b = q5) (fun e => by omega) ki) T.kc_t (fun W l o o' _ h1 h2 _ => T.kc_b W l o o' h1 h2) (Below.refl _ _) (fun _ => rfl)
      (fun pre X => (∃ ck, mblk X q5 = some (.cells ck 87 (0, 0)) ∧ T.OC ck (T.it T.sHi ts (T.o0 (T.moms nR H) (c0, h0)) pre.length)) ∧ W2.grownBy X (some q5) ∧ ∀ i, i < pre.length → ¬ T.same (T.it T.sHi ts (T.o0 (T.moms nR H) (c0, h0)) (i + 1)) (T.it T.sHi ts (T.o0 (T.moms nR H) (c0, h0)) i))
      (fun cd pre X => (cd = .ret ∧ ∃ ck j, j < (T.moms nR H).length ∧ T.same (T.it T.sHi ts (T.o0 (T.moms nR H) (c0, h0)) (j + 1)) (T.it T.sHi ts (T.o0 (T.moms nR H) (c0, h0)) j) ∧ T.OC ck (T.it T.sHi ts (T.o0 (T.moms nR H) (c0, h0)) (j + 1)) ∧ mblk X q3 = some (.cells ck 87 (0, 0)) ∧ mblk X q4 = some (.cells #[.bool true] 4 (0, 0))) ∧ Up w X ∧ X.heap[d1]? = some (.deferred (some [])) ∧ W2.heap.size ≤ X.heap.size)
      ?hI ?hIx ?h0
      (fun x af _ => af = { tmps := List.toArray ((WeV H (.slice aR nR cR) (.slice aO nO cO) (.slice aP nP cP) b0 b1 b2 b3 b4 (.slice aT nT cT) : Value) :: MoV c0 h0 :: AhV :: .pointer (some ⟨q0, 0, none⟩) :: .pointer (some ⟨q1, 0, none⟩) :: .pointer (some ⟨q2, 0, none⟩) :: .pointer (some ⟨q3, 0, none⟩) :: .pointer (some ⟨q4, 0, none⟩) :: .pointer (some ⟨q5, 0, none⟩) :: undef :: undef :: .pointer (some ⟨q0, 0, none⟩) :: CeV H (.slice aR nR cR) (.slice aO nO cO) (.slice aP nP cP) b0 b1 b2 b3 b4 :: .func (.func 98) #[] #[.pointer (some ⟨qi, 0, none⟩)] :: undef :: undef :: undef :: undef :: MoV c0 h0 :: .pointer (some ⟨q5, px, none⟩) :: .pointer (some ⟨q5, px, none⟩) :: .pointer (some ⟨q0, 0, none⟩) :: CeV H (.slice aR nR cR) (.slice aO nO cO) (.slice aP nP cP) b0 b1 b2 b3 b4 :: .func (.func 98) #[] #[.pointer (some ⟨qj, 0, none⟩)] :: MoV x.1 x.2 :: undef :: undef :: undef :: undef :: undef :: undef :: undef :: undef :: undef :: []), defers := [] }) ?hAx ?assign ?body ?done ?stop
    case hI =>
      rintro pre X Y row ⟨⟨ck, h1, h2⟩, h3, h4⟩ hg hr
      exact ⟨⟨ck, (hg.block _ (blk_lt h1) (fun e => by have := (hr _ e.symm).1; omega)).trans h1, h2⟩, grown_own h3 hg fun r e => (hr r e).1, h4⟩
    case hIx =>
      rintro cd pre X Y row ⟨⟨rfl, ck, j, h1, h2, h3, h4, h5⟩, h6, h7, h8⟩ hg hr
      have nb : ∀ b, b < W2.heap.size → Y.heap[b]? = X.heap[b]? := fun b hb => hg.block b (by omega) (fun e => by have := (hr b e.symm).1; omega)
      have ld := (Array.getElem?_eq_some_iff.1 hd).1
      exact ⟨⟨rfl, ck, j, h1, h2, h3, (nb _ (by omega)).trans h4, (nb _ (by omega)).trans h5⟩, h6.grown hg (fun r e => by have := (hr r e).1; have := UW.size; omega), (nb _ ld).trans h7, Nat.le_trans h8 hg.size⟩
    case h0 => exact ⟨⟨cN, kN, HO2.out⟩, up_grown (Up.refl W2) _, fun i hi => absurd hi (by simp)⟩
    case hAx =>
      rintro x af _ X Y row h hg hr
      exact h
    case assign =>
      rintro l pre x W K hI hK
      gi_wp2
      exact hK _ _ (KeepsFrom.refl _ _) (T.kc_refl _) hI (by kernel_rfl)
    case body =>
      rintro l pre x af W hl' ⟨r, hr⟩ ⟨⟨ck, h1, h2⟩, h3, h4⟩ rfl hlen
      replace kW := grown_blk h3 kW (fun e => by have := Option.some.inj e; omega)
      replace kS := grown_blk h3 kS (fun e => by have := Option.some.inj e; omega)
      replace kR := grown_blk h3 kR (fun e => by have := Option.some.inj e; omega)
      replace kB := grown_blk h3 kB (fun e => by have := Option.some.inj e; omega)
      replace hd := (h3.block _ (Array.getElem?_eq_some_iff.1 hd).1 (fun e => by have := Option.some.inj e; omega)).trans hd
      have ld := (Array.getElem?_eq_some_iff.1 hd).1
      have UV := UW.grown h3 (fun k e => by have := Option.some.inj e; omega)
      have zW := h3.size
      have hs1 := Lib.hid h2.size
      have hoz := Lib.hid OZ_size
      have hok := h2.one
      have b1 := HBND.out pre.length
      have b2 := HBND.out (pre.length + 1)
      have hpl : pre.length ≤ 70 := by omega
      have HNB := Lib.hid (show T.Bnd (-1000000000000000) 1000000000 (T.it T.sHi ts (T.o0 (T.moms nR H) (c0, h0)) pre.length) from fun m hm => by have := b1 m hm; omega)
      have FI1 := Lib.hid (show T.Fine (T.it T.sHi ts (T.o0 (T.moms nR H) (c0, h0)) pre.length) from fun m hm => by have := b1 m hm; exact ⟨by omega, by omega⟩)
      have FI2 := Lib.hid (show T.Fine (T.it T.sHi ts (T.o0 (T.moms nR H) (c0, h0)) (pre.length + 1)) from fun m hm => by have := b2 m hm; exact ⟨by omega, by omega⟩)
      have HO := Lib.hid h2
      clear b1 b2 h2 kF ki kN HO2
      have l1 := blk_lt h1
      gi_wp2_with fail
      obtain ⟨V, hV⟩ : ∃ x, W.alloc (.cells ck 87) = x := ⟨_, rfl⟩
      have uV : Up W V := by rw [← hV]; exact (Up.refl W).alloc _
      have kb : mblk V W.heap.size = some (.cells ck 87 (0, 0)) := by rw [← hV]; exact blk_new _ _ _ rfl
      have zV : V.heap.size = W.heap.size + 1 := by rw [← hV]; simp
      obtain ⟨qb, eb⟩ : ∃ x, W.heap.size = x := ⟨_, rfl⟩
      rw [hV, eb]
      rw [eb] at kb
      clear hV
      refine ⟨trivial, (CallsIn.inRound _ (callsIn_wide.2 (narrow_ah (HI.out) (UV.trans uV) (show w.heap.size ≤ q5 by omega) HT.out (by omega) HO.out HNB.out (uV.blk h1)))).mono ?_⟩
      rintro e Y ⟨rfl, ⟨cs', k5, hO'⟩, gY⟩
      have hO2 : T.OC cs' (T.it T.sHi ts (T.o0 (T.moms nR H) (c0, h0)) (pre.length + 1)) := hO'
      have kb2 := grown_blk gY kb (fun e => by have := Option.some.inj e; omega)
      have hs2 := Lib.hid hO2.size
      have hok2 := hO2.one
      obtain ⟨rq, hrq, heq⟩ := eqOff hO2 HO.out FI2.out FI1.out
      have gWY := grown_trans (up_grown uV (some q5)) gY
      have kR2 := grown_blk gWY kR (fun e => by have := Option.some.inj e; omega)
      have kB2 := grown_blk gWY kB (fun e => by have := Option.some.inj e; omega)
      have hd2 := (gWY.block _ ld (fun e => by have := Option.some.inj e; omega)).trans hd
      have UY := UV.grown gWY (fun k e => by have := Option.some.inj e; omega)
      have zY := gWY.size
      have KY : KeepsFrom W2.heap.size W Y := KeepsFrom.of_grownBy gWY (fun j e => by have := Option.some.inj e; omega)
      have CY : T.Kc (fun b => b = q5) W Y := ⟨fun b o hb _ hn => (gWY.block b (Array.getElem?_eq_some_iff.1 hb).1 (fun e => hn (Option.some.inj e))).trans hb, gWY.size⟩
      have HK := Lib.hid (And.intro KY CY)
      have HG3 := Lib.hid (grown_trans h3 gWY)
      have HO2' := Lib.hid hO2
      clear hO' hO2 kb gY uV kW kS kR kB hd h1 h3 KY CY gWY zV HNB FI1 FI2 HI UV
      have l3 := blk_lt kR2
      have l4 := blk_lt kB2
      cases rq with
      | true =>
        have hsame := hrq.1 rfl
        have hst := run_offStore_row Y q3 OZ cs' kR2 hoz hok2
        have kR3 := blk_setRow kR2 cs'
        have g3 := grown_row Y q3 cs'
        obtain ⟨Y1, hY1⟩ : ∃ x, Y.setRow q3 cs' = x := ⟨_, rfl⟩
        rw [hY1] at hst kR3 g3
        have kB3 := grown_blk g3 kB2 (fun e => by have := Option.some.inj e; omega)
        have f4 := frozB kB3
        have c4 := cellB kB3
        have z3 := g3.size
        clear hrq hY1
        gi_wp2_with fail
        obtain ⟨Y2, hY2⟩ : ∃ x, Y1.setCell ⟨q4, 0, none⟩ (.bool true) = x := ⟨_, rfl⟩
        have kB4 : mblk Y2 q4 = some (.cells #[.bool true] 4 (0, 0)) := by rw [← hY2]; exact blk_put kB3 0 _
        have g4 : Y1.grownBy Y2 (some q4) := by rw [← hY2]; exact grown_set Y1 q4 0 (.bool true)
        have kR4 := grown_blk g4 kR3 (fun e => by have := Option.some.inj e; omega)
        have z4 := g4.size
        rw [hY2]
        refine ⟨(HK.out.1.trans (KeepsFrom.of_grownBy g3 fun j e => by have := Option.some.inj e; omega)).trans (KeepsFrom.of_grownBy g4 fun j e => by have := Option.some.inj e; omega), ⟨rfl, cs', pre.length, hlen, hsame, HO2'.out, kR4, kB4⟩, (UY.grown g3 fun j e => by have := Option.some.inj e; omega).grown g4 fun j e => by have := Option.some.inj e; omega, ?_, by omega⟩
        have q3' := (g3.block _ (Array.getElem?_eq_some_iff.1 hd2).1 (fun e => by have := Option.some.inj e; omega)).trans hd2
        exact (g4.block _ (Array.getElem?_eq_some_iff.1 q3').1 (fun e => by have := Option.some.inj e; omega)).trans q3'
      | false =>
        have hsame := fun e => Bool.false_ne_true (hrq.2 e)
        clear hrq
        gi_wp2
        refine ⟨HK.out.1, HK.out.2, ⟨cs', k5, by rw [List.length_append]; exact HO2'.out⟩, HG3.out, fun i hi => ?_⟩
        rw [List.length_append, List.length_singleton] at hi
        by_cases e : i = pre.length
        · rw [e]; exact hsame
        · exact h4 i (by omega)
    case done =>
      rintro D xs X hD rfl ⟨⟨ck, h1, h2⟩, h3, h4⟩ hKd
      replace kR := grown_blk h3 kR (fun e => by have := Option.some.inj e; omega)
      replace kB := grown_blk h3 kB (fun e => by have := Option.some.inj e; omega)
      have ld := (Array.getElem?_eq_some_iff.1 hd).1
      replace hd := (h3.block _ ld (fun e => by have := Option.some.inj e; omega)).trans hd
      have UX := UW.grown h3 (fun k e => by have := Option.some.inj e; omega)
      have hst := run_offStore_row X q3 OZ OZ kR (Lib.hid OZ_size) OZ_ok
      have kR3 := blk_setRow kR OZ
      have g3 := grown_row X q3 OZ
      have l3 := blk_lt kR
      have zX3 := h3.size
      obtain ⟨Y1, hY1⟩ : ∃ x, X.setRow q3 OZ = x := ⟨_, rfl⟩
      rw [hY1] at hst kR3 g3
      rw [← OZ_is] at hst
      have kB3 := grown_blk g3 kB (fun e => by have := Option.some.inj e; omega)
      have f4 := frozB kB3
      have c4 := cellB kB3
      have z3 := g3.size
      have l4 := blk_lt kB3
      clear hY1 kF kW kS kN ki h1
      gi_wp2_with fail
      obtain ⟨Y2, hY2⟩ : ∃ x, Y1.setCell ⟨q4, 0, none⟩ (.bool false) = x := ⟨_, rfl⟩
      have kB4 : mblk Y2 q4 = some (.cells #[.bool false] 4 (0, 0)) := by rw [← hY2]; exact blk_put kB3 0 _
      have g4 : Y1.grownBy Y2 (some q4) := by rw [← hY2]; exact grown_set Y1 q4 0 (.bool false)
      have kR4 := grown_blk g4 kR3 (fun e => by have := Option.some.inj e; omega)
      have UY := (UX.grown g3 fun j e => by have := Option.some.inj e; omega).grown g4 fun j e => by have := Option.some.inj e; omega
      have sv : ∀ d, W1.heap.size ≤ d → X.heap[d]? = some (.deferred (some [])) → Y2.heap[d]? = some (.deferred (some [])) := fun d hd hk => by
        have q := (g3.block _ (Array.getElem?_eq_some_iff.1 hk).1 (fun e => by have := Option.some.inj e; omega)).trans hk
        exact (g4.block _ (Array.getElem?_eq_some_iff.1 q).1 (fun e => by have := Option.some.inj e; omega)).trans q
      have dd1 := sv d1 (by omega) hd
      have dd2 := sv D (by omega) hKd
      rw [hY2]
      clear hY2 sv
      gi_wp2
      refine leaves_marks [D, d1] Y2 (by simp; omega) (fun d hm => ?_) (fun W' a1 a2 a3 a4 a5 => ?_)
      · rcases List.mem_cons.1 hm with rfl | hm
        · exact dd2
        · rw [List.mem_singleton] at hm; subst hm; exact dd1
      · have nb : ∀ b, b < W1.heap.size → W'.heap[b]? = Y2.heap[b]? := fun b hb => a5 b (by simp; omega)
        refine ⟨_, results_2c rfl _ _ q3 q4 OZ (.bool false) rfl ((nb _ (by omega)).trans kR4) OZ_size rfl (load_bool ((nb _ (by omega)).trans kB4)), ⟨OZ, false, rfl, .inr ⟨rfl, rfl, h4⟩⟩, a1.trans UY.os, a2.trans UY.tape, a3.trans UY.output, by rw [a4]; exact UY.size, fun b hb => (nb b (by omega)).trans (Below.block UY b hb)⟩
    case stop =>
      rintro D cd pre X hD hSp ⟨⟨rfl, ck, j, h1, h2, h3, h4, h5⟩, h6, h7, h8⟩ hKd
      have ld := (Array.getElem?_eq_some_iff.1 hd).1
      clear kF kW kS kN ki kR kB hd
      gi_wp2
      refine leaves_marks [D, d1] X (by simp; omega) (fun d hm => ?_) (fun W' a1 a2 a3 a4 a5 => ?_)
      · rcases List.mem_cons.1 hm with rfl | hm
        · exact hKd
        · rw [List.mem_singleton] at hm; subst hm; exact h7
      · have nb : ∀ b, b < W1.heap.size → W'.heap[b]? = X.heap[b]? := fun b hb => a5 b (by simp; omega)
        refine ⟨_, results_2c rfl _ _ q3 q4 ck (.bool true) rfl ((nb _ (by omega)).trans h4) h3.size rfl (load_bool ((nb _ (by omega)).trans h5)), ⟨ck, true, rfl, .inl ⟨rfl, j, h1, h2, h3⟩⟩, a1.trans h6.os, a2.trans h6.tape, a3.trans h6.output, by rw [a4]; exact h6.size, fun b hb => (nb b (by omega)).trans (Below.block h6 b hb)⟩

set_option maxRecDepth 100000 in
set_option maxHeartbeats 2000000 in
theorem farthest_be {w : World} (hH : H ≤ 12) (hR : nR ≤ 5) {ts : List T.T6} {m0 : Int × Int} (I : Tis w (.slice aT nT cT) ts) (hts : T.Tok ts) (hl : ts.length ≤ 5000) (hm0 : T.in6 m0) :
    Calls Try.prog 56 #[WeV H (.slice aR nR cR) (.slice aO nO cO) (.slice aP nP cP) b0 b1 b2 b3 b4 (.slice aT nT cT), MoV m0.1 m0.2, BeV] w fun e w' => (∃ cs r, e = .returned (.tuple #[.agg cs, .bool r]) ∧ T.FarIs T.sLo ts (T.o0 (T.moms nR H) m0) (T.moms nR H).length cs r) ∧ Up w w' := by
  have HI := Lib.hid I
  have HT := Lib.hid hts
  have HM0 := Lib.hid hm0
  have hml := T.moms_len hR hH
  clear I hts hm0
  obtain ⟨c0, h0⟩ := m0
  refine (callsIn_wide (n := 5)).1 ?_
  refine callsIn_of_wp_marks Try.func56 rfl trivial ?_ rfl
  simp only [Try.ntmps56, List.size_toArray, List.length_cons, List.length_nil, Nat.reduceAdd, Nat.reduceSub, Array.replicate_succ, Array.replicate_zero, List.push_toArray, List.append_toArray, List.nil_append, List.cons_append]
  gi_wp2_with fail
  obtain ⟨W0, hW0⟩ : ∃ x, (((((w.alloc (.cells (WeC H (.slice aR nR cR) (.slice aO nO cO) (.slice aP nP cP) b0 b1 b2 b3 b4 (.slice aT nT cT)) 82)).alloc (.cells #[.int .i64 c0, .int .i64 h0] 100)).alloc (.cells #[.func (.func 97) #[] #[], .int .i64 (-1)] 104)).alloc (.cells OZ 87)).alloc (.cells #[.bool false] 4)).alloc (.cells OZ 87) = x := ⟨_, rfl⟩
  obtain ⟨q0, e0⟩ : ∃ x, w.heap.size = x := ⟨_, rfl⟩
  obtain ⟨q1, e1⟩ : ∃ x, q0 + 1 = x := ⟨_, rfl⟩
  obtain ⟨q2, e2⟩ : ∃ x, q1 + 1 = x := ⟨_, rfl⟩
  obtain ⟨q3, e3⟩ : ∃ x, q2 + 1 = x := ⟨_, rfl⟩
  obtain ⟨q4, e4⟩ : ∃ x, q3 + 1 = x := ⟨_, rfl⟩
  obtain ⟨q5, e5⟩ : ∃ x, q4 + 1 = x := ⟨_, rfl⟩
  have U0 : Up w W0 := by rw [← hW0]; exact ((((((Up.refl w).alloc _).alloc _).alloc _).alloc _).alloc _).alloc _
  have kW : mblk W0 q0 = some (.cells (WeC H (.slice aR nR cR) (.slice aO nO cO) (.slice aP nP cP) b0 b1 b2 b3 b4 (.slice aT nT cT)) 82 (0, 0)) := by rw [← hW0]; exact blk_keep _ (blk_keep _ (blk_keep _ (blk_keep _ (blk_keep _ (blk_new _ _ _ e0.symm)))))
  have kF : mblk W0 q1 = some (.cells #[.int .i64 c0, .int .i64 h0] 100 (0, 0)) := by rw [← hW0]; exact blk_keep _ (blk_keep _ (blk_keep _ (blk_keep _ (blk_new _ _ _ (by simp; omega)))))
  have kS : mblk W0 q2 = some (.cells #[.func (.func 97) #[] #[], .int .i64 (-1)] 104 (0, 0)) := by rw [← hW0]; exact blk_keep _ (blk_keep _ (blk_keep _ (blk_new _ _ _ (by simp; omega))))
  have kR : mblk W0 q3 = some (.cells OZ 87 (0, 0)) := by rw [← hW0]; exact blk_keep _ (blk_keep _ (blk_new _ _ _ (by simp; omega)))
  have kB : mblk W0 q4 = some (.cells #[.bool false] 4 (0, 0)) := by rw [← hW0]; exact blk_keep _ (blk_new _ _ _ (by simp; omega))
  have kN : mblk W0 q5 = some (.cells OZ 87 (0, 0)) := by rw [← hW0]; exact blk_new _ _ _ (by simp; omega)
  have z0 : W0.heap.size = q5 + 1 := by rw [← hW0]; simp; omega
  rw [hW0, e0, e1, e2, e3, e4, e5]
  clear hW0
  refine ⟨trivial, (callsIn_wide.2 (moments_any _)).mono ?_⟩
  rintro e W1 ⟨rfl, hW1⟩
  obtain ⟨qi, ei⟩ : ∃ x, W0.heap.size = x := ⟨_, rfl⟩
  have U1 : Up W0 W1 := by rw [← hW1]; exact (Up.refl W0).alloc _
  have ki : mblk W1 qi = some (.cells (CeC H (.slice aR nR cR) (.slice aO nO cO) (.slice aP nP cP) b0 b1 b2 b3 b4) 79 (0, 0)) := by rw [← hW1]; exact blk_new W0 (.cells (CeC H (.slice aR nR cR) (.slice aO nO cO) (.slice aP nP cP) b0 b1 b2 b3 b4) 79) _ ei.symm
  have z1 : W1.heap.size = qi + 1 := by rw [← hW1]; simp; omega
  replace kW := U1.blk kW
  replace kF := U1.blk kF
  replace kS := U1.blk kS
  replace kR := U1.blk kR
  replace kB := U1.blk kB
  replace kN := U1.blk kN
  have UW := U0.trans U1
  rw [ei]
  clear hW1 U0 U1
  gi_wp2_with fail
  refine T.rangeAll (p := fun b => b = q5 ∨ b = W1.heap.size + 1) rfl (enters_of Try.func98 (by kernel_rfl) rfl) (enc := fun x : Int × Int => #[MoV x.1 x.2]) (fun _ => rfl)
    (moments_seq hH hR (fun e => by omega) ki) (.inr rfl) (fun e => by omega) (fun b hb e => by omega)
    (fun pre X => (∃ ck, mblk X q5 = some (.cells ck 87 (0, 0)) ∧ T.OC ck (T.ini pre)) ∧ W1.grownBy X (some q5)) ?hI ⟨⟨OZ, kN, OZ_oc⟩, up_grown (Up.refl W1) _⟩
    (fun x af X => ∃ Bx, W1.heap.size + 2 ≤ Bx ∧ mblk X Bx = some (.cells #[.int .i64 x.1, .int .i64 x.2] 100 (0, 0)) ∧ af = { tmps := List.toArray ((WeV H (.slice aR nR cR) (.slice aO nO cO) (.slice aP nP cP) b0 b1 b2 b3 b4 (.slice aT nT cT) : Value) :: MoV c0 h0 :: BeV :: .pointer (some ⟨q0, 0, none⟩) :: .pointer (some ⟨q1, 0, none⟩) :: .pointer (some ⟨q2, 0, none⟩) :: .pointer (some ⟨q3, 0, none⟩) :: .pointer (some ⟨q4, 0, none⟩) :: .pointer (some ⟨q5, 0, none⟩) :: .pointer (some ⟨Bx, 0, none⟩) :: undef :: .pointer (some ⟨q0, 0, none⟩) :: CeV H (.slice aR nR cR) (.slice aO nO cO) (.slice aP nP cP) b0 b1 b2 b3 b4 :: .func (.func 98) #[] #[.pointer (some ⟨qi, 0, none⟩)] :: MoV x.1 x.2 :: undef :: undef :: undef :: undef :: undef :: undef :: undef :: undef :: undef :: undef :: undef :: undef :: undef :: undef :: undef :: undef :: undef :: undef :: undef :: []), defers := [] }) ?hAx ?assign ?body ?done
  case hI =>
    rintro pre X Y row ⟨⟨ck, h1, h2⟩, h3⟩ hg hr
    exact ⟨⟨ck, (hg.block _ (blk_lt h1) (fun e => by have := (hr _ e.symm).1; omega)).trans h1, h2⟩, grown_own h3 hg fun r e => (hr r e).1⟩
  case hAx =>
    rintro x af _ X Y row ⟨Bx, h1, h2, h3⟩ hg hr
    exact ⟨Bx, h1, (hg.block Bx (blk_lt h2) (fun e => by obtain ⟨_, o, ho, hc⟩ := hr Bx e.symm; rw [show X.heap[Bx]? = _ from h2] at ho; cases ho; simp [T.book] at hc)).trans h2, h3⟩
  case assign =>
    rintro pre x X K _ _ hX hK
    gi_wp2
    exact hK _ _ ((Up.refl X).alloc _) ⟨X.heap.size, hX, blk_new _ _ _ rfl, rfl⟩
  case body =>
    rintro pre x af X hpre ⟨⟨ck, h1, h2⟩, h3⟩ ⟨Bx, x1, x2, rfl⟩ hz ⟨r, hr⟩
    have hin : T.in6 x := by
      obtain ⟨t, ht⟩ := hpre
      exact T.moms_in hR hH (by rw [← ht]; simp)
    have HO2 := Lib.hid (T.ini_snoc h2 hin)
    have HP := Lib.hid (fun w => oat_any (B := q5) (w := w) hin)
    have hlt := hin.lt
    have hsz := h2.size
    obtain ⟨px, hpx⟩ : ∃ y, T.pl x = y := ⟨_, rfl⟩
    rw [hpx] at HO2 HP hlt
    clear h2 hpre
    gi_wp2_with fail
    refine ⟨trivial, (CallsIn.inRound _ (callsIn_wide.2 (HP.out _))).mono ?_⟩
    rintro e y1 ⟨rfl, u1⟩
    have k1 := u1.blk h1
    have f1 := frozB k1
    have l1 : px < ck.size := by omega
    have cx : ∃ v, y1.cell? ⟨q5, px, none⟩ = some v := ⟨_, (cellB k1 px).trans (Array.getElem?_eq_getElem l1)⟩
    obtain ⟨vx, cx⟩ := cx
    clear HP
    gi_wp2
    have uX := up_grown u1 (some q5)
    have g2 := grown_set y1 q5 px (.int .i64 200000)
    refine ⟨fun b o hb hnp => ?_, Nat.le_trans u1.size g2.size, ⟨_, blk_put k1 px _, HO2.out⟩, grown_trans (grown_trans h3 uX) g2⟩
    have hlb := (Array.getElem?_eq_some_iff.1 hb).1
    have := u1.size
    exact (g2.block b (by omega) (fun e => hnp ⟨.inl (Option.some.inj e), by have := Option.some.inj e; omega⟩)).trans ((Below.block u1 b hlb).trans hb)
  case done =>
    rintro X ⟨⟨ck, h1, h2⟩, h3⟩ hz hd
    have nq : ∀ b, b < qi → b ≠ q5 → some b ≠ some q5 := fun b _ h e => h (Option.some.inj e)
    replace kW := grown_blk h3 kW (nq _ (by omega) (by omega))
    replace kF := grown_blk h3 kF (nq _ (by omega) (by omega))
    replace kS := grown_blk h3 kS (nq _ (by omega) (by omega))
    replace kR := grown_blk h3 kR (nq _ (by omega) (by omega))
    replace kB := grown_blk h3 kB (nq _ (by omega) (by omega))
    have UX := UW.grown h3 (fun k e => by have := Option.some.inj e; omega)
    have HP := Lib.hid (fun w => oat_any (B := q5) (w := w) HM0.out)
    have HO2 := Lib.hid (T.ini_o0 h2 HM0.out)
    have hlt := HM0.out.lt
    have hsz := h2.size
    obtain ⟨px, hpx⟩ : ∃ y, T.pl (c0, h0) = y := ⟨_, rfl⟩
    rw [hpx] at HO2 HP hlt
    obtain ⟨d1, ed1⟩ : ∃ x, W1.heap.size = x := ⟨_, rfl⟩
    rw [ed1] at hd hz ⊢
    have zX := h3.size
    clear nq h3 h2 UW kN ki
    gi_wp2_with fail
    refine ⟨trivial, (callsIn_wide.2 (HP.out _)).mono ?_⟩
    rintro e y1 ⟨rfl, u1⟩
    replace kW := u1.blk kW
    replace kF := u1.blk kF
    replace kS := u1.blk kS
    replace kR := u1.blk kR
    replace kB := u1.blk kB
    replace hd := (Below.block u1 _ (Array.getElem?_eq_some_iff.1 hd).1).trans hd
    have k1 := u1.blk h1
    have f1 := frozB k1
    have l1 : px < ck.size := by omega
    have cx : ∃ v, y1.cell? ⟨q5, px, none⟩ = some v := ⟨_, (cellB k1 px).trans (Array.getElem?_eq_getElem l1)⟩
    obtain ⟨vx, cx⟩ := cx
    have Uy := UX.trans u1
    have zy := u1.size
    clear HP h1 UX u1
    gi_wp2_with fail
    obtain ⟨X2, hX2⟩ : ∃ x, y1.setCell ⟨q5, px, none⟩ (.int .i64 0) = x := ⟨_, rfl⟩
    have kN : mblk X2 q5 = some (.cells (ck.setIfInBounds px (.int .i64 0)) 87 (0, 0)) := by rw [← hX2]; exact blk_put k1 px _
    have g2 : y1.grownBy X2 (some q5) := by rw [← hX2]; exact grown_set y1 q5 px (.int .i64 0)
    replace kW := grown_blk g2 kW (fun e => by have := Option.some.inj e; omega)
    replace kF := grown_blk g2 kF (fun e => by have := Option.some.inj e; omega)
    replace kS := grown_blk g2 kS (fun e => by have := Option.some.inj e; omega)
    replace kR := grown_blk g2 kR (fun e => by have := Option.some.inj e; omega)
    replace kB := grown_blk g2 kB (fun e => by have := Option.some.inj e; omega)
    replace hd := (g2.block _ (Array.getElem?_eq_some_iff.1 hd).1 (fun e => by have := Option.some.inj e; omega)).trans hd
    have UX := Uy.grown g2 (fun k e => by have := Option.some.inj e; omega)
    have zX2 := g2.size
    obtain ⟨cN, hcN⟩ : ∃ x, ck.setIfInBounds px (.int .i64 0) = x := ⟨_, rfl⟩
    rw [hcN] at HO2 kN
    rw [hX2]
    clear hX2 k1 f1 cx g2 Uy hcN hsz l1 hlt
    refine ⟨trivial, (callsIn_wide.2 (moments_any _)).mono ?_⟩
    rintro e W2 ⟨rfl, hW2⟩
    obtain ⟨qj, ej⟩ : ∃ x, X2.heap.size = x := ⟨_, rfl⟩
    have U2 : Up X2 W2 := by rw [← hW2]; exact (Up.refl X2).alloc _
    have ki : mblk W2 qj = some (.cells (CeC H (.slice aR nR cR) (.slice aO nO cO) (.slice aP nP cP) b0 b1 b2 b3 b4) 79 (0, 0)) := by rw [← hW2]; exact blk_new X2 (.cells (CeC H (.slice aR nR cR) (.slice aO nO cO) (.slice aP nP cP) b0 b1 b2 b3 b4) 79) _ ej.symm
    have z2 : W2.heap.size = qj + 1 := by rw [← hW2]; simp; omega
    replace kW := U2.blk kW
    replace kF := U2.blk kF
    replace kS := U2.blk kS
    replace kR := U2.blk kR
    replace kB := U2.blk kB
    replace kN := U2.blk kN
    replace hd := (Below.block U2 _ (Array.getElem?_eq_some_iff.1 hd).1).trans hd
    have UW := UX.trans U2
    rw [ej]
    clear hW2 UX U2
    gi_wp2_with fail
    have HBND := Lib.hid (fun k => T.it_bnd (T.o0_bnd (T.moms nR H) (c0, h0)) HT.out.lo hl k)
    refine wpIn_rangeFunc_ownH (F := Fence.wide) (n := 5) rfl (by omega) (gf := 98) (lb := #[.pointer (some ⟨qj, 0, none⟩)]) rfl trivial (enters_of Try.func98 (by kernel_rfl) rfl)
      (moments_stops hH hR (m := 5 - 1) (by omega) (p := fun b => b = q5) (fun e => by omega) ki) T.kc_t (fun W l o o' _ h1 h2 _ => T.kc_b W l o o' h1 h2) (Below.refl _ _) (fun _ => rfl)
      (fun pre X => (∃ ck, mblk X q5 = some (.cells ck 87 (0, 0)) ∧ T.OC ck (T.it T.sLo ts (T.o0 (T.moms nR H) (c0, h0)) pre.length)) ∧ W2.grownBy X (some q5) ∧ ∀ i, i < pre.length → ¬ T.same (T.it T.sLo ts (T.o0 (T.moms nR H) (c0, h0)) (i + 1)) (T.it T.sLo ts (T.o0 (T.moms nR H) (c0, h0)) i))
      (fun cd pre X => (cd = .ret ∧ ∃ ck j, j < (T.moms nR H).length ∧ T.same (T.it T.sLo ts (T.o0 (T.moms nR H) (c0, h0)) (j + 1)) (T.it T.sLo ts (T.o0 (T.moms nR H) (c0, h0)) j) ∧ T.OC ck (T.it T.sLo ts (T.o0 (T.moms nR H) (c0, h0)) (j + 1)) ∧ mblk X q3 = some (.cells ck 87 (0, 0)) ∧ mblk X q4 = some (.cells #[.bool true] 4 (0, 0))) ∧ Up w X ∧ X.heap[d1]? = some (.deferred (some [])) ∧ W2.heap.size ≤ X.heap.size)
      ?hI ?hIx ?h0
      (fun x af _ => af = { tmps := List.toArray ((WeV H (.slice aR nR cR) (.slice aO nO cO) (.slice aP nP cP) b0 b1 b2 b3 b4 (.slice aT nT cT) : Value) :: MoV c0 h0 :: BeV :: .pointer (some ⟨q0, 0, none⟩) :: .pointer (some ⟨q1, 0, none⟩) :: .pointer (some ⟨q2, 0, none⟩) :: .pointer (some ⟨q3, 0, none⟩) :: .pointer (some ⟨q4, 0, none⟩) :: .pointer (some ⟨q5, 0, none⟩) :: undef :: undef :: .pointer (some ⟨q0, 0, none⟩) :: CeV H (.slice aR nR cR) (.slice aO nO cO) (.slice aP nP cP) b0 b1 b2 b3 b4 :: .func (.func 98) #[] #[.pointer (some ⟨qi, 0, none⟩)] :: undef :: undef :: undef :: undef :: MoV c0 h0 :: .pointer (some ⟨q5, px, none⟩) :: .pointer (some ⟨q5, px, none⟩) :: .pointer (some ⟨q0, 0, none⟩) :: CeV H (.slice aR nR cR) (.slice aO nO cO) (.slice aP nP cP) b0 b1 b2 b3 b4 :: .func (.func 98) #[] #[.pointer (some ⟨qj, 0, none⟩)] :: MoV x.1 x.2 :: undef :: undef :: undef :: undef :: undef :: undef :: undef :: undef :: undef :: []), defers := [] }) ?hAx ?assign ?body ?done ?stop
    case hI =>
      rintro pre X Y row ⟨⟨ck, h1, h2⟩, h3, h4⟩ hg hr
      exact ⟨⟨ck, (hg.block _ (blk_lt h1) (fun e => by have := (hr _ e.symm).1; omega)).trans h1, h2⟩, grown_own h3 hg fun r e => (hr r e).1, h4⟩
    case hIx =>
      rintro cd pre X Y row ⟨⟨rfl, ck, j, h1, h2, h3, h4, h5⟩, h6, h7, h8⟩ hg hr
      have nb : ∀ b, b < W2.heap.size → Y.heap[b]? = X.heap[b]? := fun b hb => hg.block b (by omega) (fun e => by have := (hr b e.symm).1; omega)
      have ld := (Array.getElem?_eq_some_iff.1 hd).1
      exact ⟨⟨rfl, ck, j, h1, h2, h3, (nb _ (by omega)).trans h4, (nb _ (by omega)).trans h5⟩, h6.grown hg (fun r e => by have := (hr r e).1; have := UW.size; omega), (nb _ ld).trans h7, Nat.le_trans h8 hg.size⟩
    case h0 => exact ⟨⟨cN, kN, HO2.out⟩, up_grown (Up.refl W2) _, fun i hi => absurd hi (by simp)⟩
    case hAx =>
      rintro x af _ X Y row h hg hr
      exact h
    case assign =>
      rintro l pre x W K hI hK
      gi_wp2
      exact hK _ _ (KeepsFrom.refl _ _) (T.kc_refl _) hI (by kernel_rfl)
    case body =>
      rintro l pre x af W hl' ⟨r, hr⟩ ⟨⟨ck, h1, h2⟩, h3, h4⟩ rfl hlen
      replace kW := grown_blk h3 kW (fun e => by have := Option.some.inj e; omega)
      replace kS := grown_blk h3 kS (fun e => by have := Option.some.inj e; omega)
      replace kR := grown_blk h3 kR (fun e => by have := Option.some.inj e; omega)
      replace kB := grown_blk h3 kB (fun e => by have := Option.some.inj e; omega)
      replace hd := (h3.block _ (Array.getElem?_eq_some_iff.1 hd).1 (fun e => by have := Option.some.inj e; omega)).trans hd
      have ld := (Array.getElem?_eq_some_iff.1 hd).1
      have UV := UW.grown h3 (fun k e => by have := Option.some.inj e; omega)
      have zW := h3.size
      have hs1 := Lib.hid h2.size
      have hoz := Lib.hid OZ_size
      have hok := h2.one
      have b1 := HBND.out pre.length
      have b2 := HBND.out (pre.length + 1)
      have hpl : pre.length ≤ 70 := by omega
      have HNB := Lib.hid (show T.Bnd (-1000000000000000) 1000000000 (T.it T.sLo ts (T.o0 (T.moms nR H) (c0, h0)) pre.length) from fun m hm => by have := b1 m hm; omega)
      have FI1 := Lib.hid (show T.Fine (T.it T.sLo ts (T.o0 (T.moms nR H) (c0, h0)) pre.length) from fun m hm => by have := b1 m hm; exact ⟨by omega, by omega⟩)
      have FI2 := Lib.hid (show T.Fine (T.it T.sLo ts (T.o0 (T.moms nR H) (c0, h0)) (pre.length + 1)) from fun m hm => by have := b2 m hm; exact ⟨by omega, by omega⟩)
      have HO := Lib.hid h2
      clear b1 b2 h2 kF ki kN HO2
      have l1 := blk_lt h1
      gi_wp2_with fail
      obtain ⟨V, hV⟩ : ∃ x, W.alloc (.cells ck 87) = x := ⟨_, rfl⟩
      have uV : Up W V := by rw [← hV]; exact (Up.refl W).alloc _
      have kb : mblk V W.heap.size = some (.cells ck 87 (0, 0)) := by rw [← hV]; exact blk_new _ _ _ rfl
      have zV : V.heap.size = W.heap.size + 1 := by rw [← hV]; simp
      obtain ⟨qb, eb⟩ : ∃ x, W.heap.size = x := ⟨_, rfl⟩
      rw [hV, eb]
      rw [eb] at kb
      clear hV
      refine ⟨trivial, (CallsIn.inRound _ (callsIn_wide.2 (narrow_be (HI.out) (UV.trans uV) (show w.heap.size ≤ q5 by omega) HT.out (by omega) HO.out HNB.out (uV.blk h1)))).mono ?_⟩
      rintro e Y ⟨rfl, ⟨cs', k5, hO'⟩, gY⟩
      have hO2 : T.OC cs' (T.it T.sLo ts (T.o0 (T.moms nR H) (c0, h0)) (pre.length + 1)) := hO'
      have kb2 := grown_blk gY kb (fun e => by have := Option.some.inj e; omega)
      have hs2 := Lib.hid hO2.size
      have hok2 := hO2.one
      obtain ⟨rq, hrq, heq⟩ := eqOff hO2 HO.out FI2.out FI1.out
      have gWY := grown_trans (up_grown uV (some q5)) gY
      have kR2 := grown_blk gWY kR (fun e => by have := Option.some.inj e; omega)
      have kB2 := grown_blk gWY kB (fun e => by have := Option.some.inj e; omega)
      have hd2 := (gWY.block _ ld (fun e => by have := Option.some.inj e; omega)).trans hd
      have UY := UV.grown gWY (fun k e => by have := Option.some.inj e; omega)
      have zY := gWY.size
      have KY : KeepsFrom W2.heap.size W Y := KeepsFrom.of_grownBy gWY (fun j e => by have := Option.some.inj e; omega)
      have CY : T.Kc (fun b => b = q5) W Y := ⟨fun b o hb _ hn => (gWY.block b (Array.getElem?_eq_some_iff.1 hb).1 (fun e => hn (Option.some.inj e))).trans hb, gWY.size⟩
      have HK := Lib.hid (And.intro KY CY)
      have HG3 := Lib.hid (grown_trans h3 gWY)
      have HO2' := Lib.hid hO2
      clear hO' hO2 kb gY uV kW kS kR kB hd h1 h3 KY CY gWY zV HNB FI1 FI2 HI UV
      have l3 := blk_lt kR2
      have l4 := blk_lt kB2
      cases rq with
      | true =>
        have hsame := hrq.1 rfl
        have hst := run_offStore_row Y q3 OZ cs' kR2 hoz hok2
        have kR3 := blk_setRow kR2 cs'
        have g3 := grown_row Y q3 cs'
        obtain ⟨Y1, hY1⟩ : ∃ x, Y.setRow q3 cs' = x := ⟨_, rfl⟩
        rw [hY1] at hst kR3 g3
        have kB3 := grown_blk g3 kB2 (fun e => by have := Option.some.inj e; omega)
        have f4 := frozB kB3
        have c4 := cellB kB3
        have z3 := g3.size
        clear hrq hY1
        gi_wp2_with fail
        obtain ⟨Y2, hY2⟩ : ∃ x, Y1.setCell ⟨q4, 0, none⟩ (.bool true) = x := ⟨_, rfl⟩
        have kB4 : mblk Y2 q4 = some (.cells #[.bool true] 4 (0, 0)) := by rw [← hY2]; exact blk_put kB3 0 _
        have g4 : Y1.grownBy Y2 (some q4) := by rw [← hY2]; exact grown_set Y1 q4 0 (.bool true)
        have kR4 := grown_blk g4 kR3 (fun e => by have := Option.some.inj e; omega)
        have z4 := g4.size
        rw [hY2]
        refine ⟨(HK.out.1.trans (KeepsFrom.of_grownBy g3 fun j e => by have := Option.some.inj e; omega)).trans (KeepsFrom.of_grownBy g4 fun j e => by have := Option.some.inj e; omega), ⟨rfl, cs', pre.length, hlen, hsame, HO2'.out, kR4, kB4⟩, (UY.grown g3 fun j e => by have := Option.some.inj e; omega).grown g4 fun j e => by have := Option.some.inj e; omega, ?_, by omega⟩
        have q3' := (g3.block _ (Array.getElem?_eq_some_iff.1 hd2).1 (fun e => by have := Option.some.inj e; omega)).trans hd2
        exact (g4.block _ (Array.getElem?_eq_some_iff.1 q3').1 (fun e => by have := Option.some.inj e; omega)).trans q3'
      | false =>
        have hsame := fun e => Bool.false_ne_true (hrq.2 e)
        clear hrq
        gi_wp2
        refine ⟨HK.out.1, HK.out.2, ⟨cs', k5, by rw [List.length_append]; exact HO2'.out⟩, HG3.out, fun i hi => ?_⟩
        rw [List.length_append, List.length_singleton] at hi
        by_cases e : i = pre.length
        · rw [e]; exact hsame
        · exact h4 i (by omega)
    case done =>
      rintro D xs X hD rfl ⟨⟨ck, h1, h2⟩, h3, h4⟩ hKd
      replace kR := grown_blk h3 kR (fun e => by have := Option.some.inj e; omega)
      replace kB := grown_blk h3 kB (fun e => by have := Option.some.inj e; omega)
      have ld := (Array.getElem?_eq_some_iff.1 hd).1
      replace hd := (h3.block _ ld (fun e => by have := Option.some.inj e; omega)).trans hd
      have UX := UW.grown h3 (fun k e => by have := Option.some.inj e; omega)
      have hst := run_offStore_row X q3 OZ OZ kR (Lib.hid OZ_size) OZ_ok
      have kR3 := blk_setRow kR OZ
      have g3 := grown_row X q3 OZ
      have l3 := blk_lt kR
      have zX3 := h3.size
      obtain ⟨Y1, hY1⟩ : ∃ x, X.setRow q3 OZ = x := ⟨_, rfl⟩
      rw [hY1] at hst kR3 g3
      rw [← OZ_is] at hst
      have kB3 := grown_blk g3 kB (fun e => by have := Option.some.inj e; omega)
      have f4 := frozB kB3
      have c4 := cellB kB3
      have z3 := g3.size
      have l4 := blk_lt kB3
      clear hY1 kF kW kS kN ki h1
      gi_wp2_with fail
      obtain ⟨Y2, hY2⟩ : ∃ x, Y1.setCell ⟨q4, 0, none⟩ (.bool false) = x := ⟨_, rfl⟩
      have kB4 : mblk Y2 q4 = some (.cells #[.bool false] 4 (0, 0)) := by rw [← hY2]; exact blk_put kB3 0 _
      have g4 : Y1.grownBy Y2 (some q4) := by rw [← hY2]; exact grown_set Y1 q4 0 (.bool false)
      have kR4 := grown_blk g4 kR3 (fun e => by have := Option.some.inj e; omega)
      have UY := (UX.grown g3 fun j e => by have := Option.some.inj e; omega).grown g4 fun j e => by have := Option.some.inj e; omega
      have sv : ∀ d, W1.heap.size ≤ d → X.heap[d]? = some (.deferred (some [])) → Y2.heap[d]? = some (.deferred (some [])) := fun d hd hk => by
        have q := (g3.block _ (Array.getElem?_eq_some_iff.1 hk).1 (fun e => by have := Option.some.inj e; omega)).trans hk
        exact (g4.block _ (Array.getElem?_eq_some_iff.1 q).1 (fun e => by have := Option.some.inj e; omega)).trans q
      have dd1 := sv d1 (by omega) hd
      have dd2 := sv D (by omega) hKd
      rw [hY2]
      clear hY2 sv
      gi_wp2
      refine leaves_marks [D, d1] Y2 (by simp; omega) (fun d hm => ?_) (fun W' a1 a2 a3 a4 a5 => ?_)
      · rcases List.mem_cons.1 hm with rfl | hm
        · exact dd2
        · rw [List.mem_singleton] at hm; subst hm; exact dd1
      · have nb : ∀ b, b < W1.heap.size → W'.heap[b]? = Y2.heap[b]? := fun b hb => a5 b (by simp; omega)
        refine ⟨_, results_2c rfl _ _ q3 q4 OZ (.bool false) rfl ((nb _ (by omega)).trans kR4) OZ_size rfl (load_bool ((nb _ (by omega)).trans kB4)), ⟨OZ, false, rfl, .inr ⟨rfl, rfl, h4⟩⟩, a1.trans UY.os, a2.trans UY.tape, a3.trans UY.output, by rw [a4]; exact UY.size, fun b hb => (nb b (by omega)).trans (Below.block UY b hb)⟩
    case stop =>
      rintro D cd pre X hD hSp ⟨⟨rfl, ck, j, h1, h2, h3, h4, h5⟩, h6, h7, h8⟩ hKd
      have ld := (Array.getElem?_eq_some_iff.1 hd).1
      clear kF kW kS kN ki kR kB hd
      gi_wp2
      refine leaves_marks [D, d1] X (by simp; omega) (fun d hm => ?_) (fun W' a1 a2 a3 a4 a5 => ?_)
      · rcases List.mem_cons.1 hm with rfl | hm
        · exact hKd
        · rw [List.mem_singleton] at hm; subst hm; exact h7
      · have nb : ∀ b, b < W1.heap.size → W'.heap[b]? = X.heap[b]? := fun b hb => a5 b (by simp; omega)
        refine ⟨_, results_2c rfl _ _ q3 q4 ck (.bool true) rfl ((nb _ (by omega)).trans h4) h3.size rfl (load_bool ((nb _ (by omega)).trans h5)), ⟨ck, true, rfl, .inl ⟨rfl, j, h1, h2, h3⟩⟩, a1.trans h6.os, a2.trans h6.tape, a3.trans h6.output, by rw [a4]; exact h6.size, fun b hb => (nb b (by omega)).trans (Below.block h6 b hb)⟩
end

end Go.Proofs.Ytcmdaiklkdeanaa
