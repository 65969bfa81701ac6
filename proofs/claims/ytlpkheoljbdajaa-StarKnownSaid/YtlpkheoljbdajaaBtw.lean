import Derived.Test.YtlpkheoljbdajaaTld
/- The contracts of between and worst. -/
namespace Go.Proofs.Ytlpkheoljbdajaa
open Go.RowKit Go.Shelf

section
variable {N bl bh rl rh : Int} {aP aQ aL aT : Option Addr} {nP cP nQ cQ nL cL nT cT : Nat} {o : Nat → Bool}
theorem from_told {w0 w : World} {ts : List T.T4} {A : Int → Prop} {m : Int} (I : Tis w0 (.slice aT nT cT) ts) (hu : Up w0 w) (W : T.Wok ts A) (hm : A m) :
    Calls Try.prog 93 #[WeV N bl bh rl rh (.slice aP nP cP) (.slice aQ nQ cQ) (.slice aL nL cL) o (.slice aT nT cT), .int .i64 m] w fun e w' => (∃ cs r, e = .returned (.tuple #[.agg cs, .bool r]) ∧ T.FromIs ts m cs r ∧ Ok34 cs) ∧ Up w w' :=
  (from_any I hu W.tin W.len (W.ain m hm)).mono fun e w' ⟨⟨cs, r, h1, h2⟩, u⟩ => ⟨⟨cs, r, h1, h2, by
    rcases h2.told W hm with ⟨_, lo, hi, hS, _⟩ | ⟨_, rfl, _⟩
    · exact hS.one
    · exact SZ_sc.one⟩, u⟩
set_option maxRecDepth 100000 in
set_option maxHeartbeats 2000000 in
theorem between_any {w0 w : World} {ts : List T.T4} {A : Int → Prop} {m k : Int} (I : Tis w0 (.slice aT nT cT) ts) (hu : Up w0 w) (W : T.Wok ts A) (hm : A m) (hk : A k) :
    Calls Try.prog 64 #[WeV N bl bh rl rh (.slice aP nP cP) (.slice aQ nQ cQ) (.slice aL nL cL) o (.slice aT nT cT), .int .i64 m, .int .i64 k] w fun e w' => (∃ l h e0, e = .returned (.tuple #[SpV l h, .int .i64 e0]) ∧ T.Asked ts m k l h e0) ∧ Up w w' := by
  have HF := Lib.hid (fun w' (u : Up w w') => from_told (N := N) (bl := bl) (bh := bh) (rl := rl) (rh := rh) (aP := aP) (nP := nP) (cP := cP) (aQ := aQ) (nQ := nQ) (cQ := cQ) (aL := aL) (nL := nL) (cL := cL) (o := o) (cT := cT) I (hu.trans u) W hm)
  have HT := Lib.hid (fun cs r h => T.FromIs.told W hm (cs := cs) (r := r) h)
  have HK := Lib.hid hk
  obtain ⟨k1, k2⟩ := W.ain k hk
  have HZ := Lib.hid SZ_size
  clear I hu W hm hk
  obtain ⟨k, rfl⟩ := Int.eq_ofNat_of_zero_le k1
  clear k1
  have k3 : k < 17 := by omega
  have k4 : (k : Int) < 17 := by omega
  go_enter Try.func64, Try.ntmps64
  go_wp2_with fail
  obtain ⟨W0, hW0⟩ : ∃ x, (w.alloc (.cells (WeC N bl bh rl rh (.slice aP nP cP) (.slice aQ nQ cQ) (.slice aL nL cL) o (.slice aT nT cT)) 90)).alloc (.cells #[.int .i64 0, .int .i64 0] 23) = x := ⟨_, rfl⟩
  obtain ⟨q0, e0⟩ : ∃ x, w.heap.size = x := ⟨_, rfl⟩
  obtain ⟨q1, e1⟩ : ∃ x, q0 + 1 = x := ⟨_, rfl⟩
  have U0 : Up w W0 := by rw [← hW0]; exact ((Up.refl w).alloc _).alloc _
  have kR : mblk W0 q1 = some (.cells #[.int .i64 0, .int .i64 0] 23 (0, 0)) := by rw [← hW0]; exact blk_new _ _ _ (by simp; omega)
  rw [hW0, e0, e1]
  clear hW0
  refine (HF.out W0 U0).mono ?_
  rintro e W1 ⟨⟨cs, r, rfl, hF, hok⟩, u⟩
  replace kR := u.blk kR
  have UW := U0.trans u
  have hQ := Lib.hid (HT.out cs r hF)
  obtain ⟨X, hX⟩ : ∃ x, W1.alloc (.cells cs 147) = x := ⟨_, rfl⟩
  obtain ⟨q2, e2⟩ : ∃ x, W1.heap.size = x := ⟨_, rfl⟩
  have u2 : Up W1 X := by rw [← hX]; exact (Up.refl W1).alloc _
  have kS : mblk X q2 = some (.cells cs 147 (0, 0)) := by rw [← hX]; exact blk_new _ _ _ e2.symm
  replace kR := u2.blk kR
  have UX := UW.trans u2
  clear hF U0 UW u u2 HF HT
  have fR := frozB kR
  have cR := cellB kR
  have lR := blk_lt kR
  cases r with
  | false =>
    have HA := Lib.hid (show T.Asked ts m k 0 0 32 by
      rcases hQ.out with ⟨e, _⟩ | ⟨_, _, h⟩
      · cases e
      · exact .inr ⟨rfl, rfl, rfl, h⟩)
    clear hQ kS
    go_wp2_with fail
    try rw [hX]
    obtain ⟨Z, hZ⟩ : ∃ z, (X.setCell ⟨q1, 0, none⟩ (.int .i64 0)).setCell ⟨q1, 1, none⟩ (.int .i64 0) = z := ⟨_, rfl⟩
    have UZ : Up w Z := by rw [← hZ]; exact (UX.set (p := ⟨q1, 0, none⟩) (by show w.heap.size ≤ q1; omega) _).set (p := ⟨q1, 1, none⟩) (by show w.heap.size ≤ q1; omega) _
    have cZ : ∀ j, Z.cell? ⟨q1, j, none⟩ = (#[Value.int .i64 0, .int .i64 0] : Array Value)[j]? := by rw [← hZ]; exact cellB (blk_put (blk_put kR 0 _) 1 _)
    rw [hZ]
    exact bodyPost_ret (v := .tuple #[SpV 0 0, .int .i64 32]) (by simp [results, Try.results64, go_sem, cZ]) rfl ⟨⟨0, 0, 32, rfl, HA.out⟩, UZ⟩
  | true =>
    have hA : ∃ l h, cs[k * 2]? = some (.int .i64 l) ∧ cs[k * 2 + 1]? = some (.int .i64 h) ∧ T.Asked ts m k l h 0 := by
      rcases hQ.out with ⟨_, lo, hi, hS, h1, _⟩ | ⟨e, _⟩
      · exact ⟨lo k, hi k, by rw [Nat.mul_comm]; exact hS.lo_ k k3, by rw [Nat.mul_comm]; exact hS.hi_ k k3, .inl ⟨rfl, (h1 k HK.out).1⟩⟩
      · cases e
    obtain ⟨l, h, c1, c2, hAA⟩ := hA
    have HA := Lib.hid hAA
    have cc := cellB kS
    have lS := blk_lt kS
    have fS := frozB kS
    clear hQ hAA
    go_wp2_with fail
    try rw [hX]
    obtain ⟨Z, hZ⟩ : ∃ z, (X.setCell ⟨q1, 0, none⟩ (.int .i64 l)).setCell ⟨q1, 1, none⟩ (.int .i64 h) = z := ⟨_, rfl⟩
    have UZ : Up w Z := by rw [← hZ]; exact (UX.set (p := ⟨q1, 0, none⟩) (by show w.heap.size ≤ q1; omega) _).set (p := ⟨q1, 1, none⟩) (by show w.heap.size ≤ q1; omega) _
    have cZ : ∀ j, Z.cell? ⟨q1, j, none⟩ = (#[Value.int .i64 l, .int .i64 h] : Array Value)[j]? := by rw [← hZ]; exact cellB (blk_put (blk_put kR 0 _) 1 _)
    rw [hZ]
    exact bodyPost_ret (v := .tuple #[SpV l h, .int .i64 0]) (by simp [results, Try.results64, go_sem, cZ]) rfl ⟨⟨l, h, 0, rfl, HA.out⟩, UZ⟩
/-- the first of the widest of so many, 0 if none is wide -/
def T.wst (wd : Nat → Int) : Nat → Nat × Int
  | 0 => (0, 0)
  | k + 1 => if (T.wst wd k).2 < wd k then (k, wd k) else T.wst wd k
theorem T.wst_lt (wd : Nat → Int) : ∀ k, (T.wst wd k).1 ≤ k
  | 0 => Nat.le_refl _
  | k + 1 => by
    unfold T.wst
    split
    · show k ≤ k + 1; omega
    · have := T.wst_lt wd k; omega
/-- what worst answers -/
def T.WorstIs (ts : List T.T4) (n : Nat) (a b c : Int) : Prop :=
  (c = 32 ∧ a = 0 ∧ b = 0 ∧ ∀ y, ¬ T.Sat true ts y) ∨ ∃ lo hi : Nat → Int, (∀ k, k < n → T.Told ts 0 (1 + k) (lo k) (hi k)) ∧
    (((T.wst (fun k => hi k - lo k) n).2 = 0 ∧ a = 0 ∧ b = 0 ∧ c = 4) ∨ ((T.wst (fun k => hi k - lo k) n).2 ≠ 0 ∧ a = (T.wst (fun k => hi k - lo k) n).1 ∧ b = (T.wst (fun k => hi k - lo k) n).2 ∧ c = 0))
set_option maxRecDepth 100000 in
set_option maxHeartbeats 2000000 in
theorem worst_any {n : Nat} {w0 w : World} {ts : List T.T4} {A : Int → Prop} (hn : n ≤ 8) (I : Tis w0 (.slice aT nT cT) ts) (hu : Up w0 w) (W : T.Wok ts A) (hm : A 0) (hA : ∀ k : Nat, k < n → A (1 + k)) :
    Calls Try.prog 82 #[WeV (n : Int) bl bh rl rh (.slice aP nP cP) (.slice aQ nQ cQ) (.slice aL nL cL) o (.slice aT nT cT)] w fun e w' => (∃ a b c, e = .returned (.tuple #[.int .i64 a, .int .i64 b, .int .i64 c]) ∧ T.WorstIs ts n a b c) ∧ Up w w' := by
  have HF := Lib.hid (fun w' (u : Up w w') => from_told (N := (n : Int)) (bl := bl) (bh := bh) (rl := rl) (rh := rh) (aP := aP) (nP := nP) (cP := cP) (aQ := aQ) (nQ := nQ) (cQ := cQ) (aL := aL) (nL := nL) (cL := cL) (o := o) (cT := cT) I (hu.trans u) W hm)
  have HT := Lib.hid (fun cs r h => T.FromIs.told W hm (cs := cs) (r := r) h)
  have HA := Lib.hid hA
  have HZ := Lib.hid SZ_size
  clear I hu W hm hA
  go_enter Try.func82, Try.ntmps82
  go_wp2_with fail
  obtain ⟨W0, hW0⟩ : ∃ x, w.alloc (.cells (WeC (n : Int) bl bh rl rh (.slice aP nP cP) (.slice aQ nQ cQ) (.slice aL nL cL) o (.slice aT nT cT)) 90) = x := ⟨_, rfl⟩
  obtain ⟨q0, e0⟩ : ∃ x, w.heap.size = x := ⟨_, rfl⟩
  have U0 : Up w W0 := by rw [← hW0]; exact (Up.refl w).alloc _
  have kW : mblk W0 q0 = some (.cells (WeC (n : Int) bl bh rl rh (.slice aP nP cP) (.slice aQ nQ cQ) (.slice aL nL cL) o (.slice aT nT cT)) 90 (0, 0)) := by rw [← hW0]; exact blk_new _ _ _ e0.symm
  rw [hW0, e0]
  clear hW0
  refine (HF.out W0 U0).mono ?_
  rintro e W1 ⟨⟨cs, r, rfl, hF, hok⟩, u⟩
  replace kW := u.blk kW
  have UW := U0.trans u
  have hQ := Lib.hid (HT.out cs r hF)
  obtain ⟨X, hX⟩ : ∃ x, W1.alloc (.cells cs 147) = x := ⟨_, rfl⟩
  obtain ⟨q2, e2⟩ : ∃ x, W1.heap.size = x := ⟨_, rfl⟩
  have u2 : Up W1 X := by rw [← hX]; exact (Up.refl W1).alloc _
  have kS : mblk X q2 = some (.cells cs 147 (0, 0)) := by rw [← hX]; exact blk_new _ _ _ e2.symm
  replace kW := u2.blk kW
  have UX := UW.trans u2
  clear hF U0 UW u u2 HF HT
  cases r with
  | false =>
    have HA := Lib.hid (show T.WorstIs ts n 0 0 32 by
      rcases hQ.out with ⟨e, _⟩ | ⟨_, _, h⟩
      · cases e
      · exact .inl ⟨rfl, rfl, rfl, h⟩)
    clear hQ kS kW
    go_wp2
    try rw [hX]
    go_ret3
    exact ⟨⟨0, 0, 32, rfl, HA.out⟩, UX⟩
  | true =>
    have hS : ∃ lo hi : Nat → Int, ∀ k, k < n → cs[(1 + k) * 2]? = some (.int .i64 (lo k)) ∧ cs[(1 + k) * 2 + 1]? = some (.int .i64 (hi k)) ∧ T.Told ts 0 (1 + k) (lo k) (hi k) ∧ (-200000000 ≤ lo k ∧ hi k ≤ 200000000 ∧ lo k ≤ hi k) := by
      rcases hQ.out with ⟨_, lo, hi, hS, h1, _⟩ | ⟨e, _⟩
      · refine ⟨fun k => lo (1 + k), fun k => hi (1 + k), fun k hk => ?_⟩
        have a := hS.lo_ (1 + k) (by omega)
        have b := hS.hi_ (1 + k) (by omega)
        rw [Nat.mul_comm] at a b
        push_cast at a b
        obtain ⟨c1, c2, c3⟩ := h1 _ (HA.out k hk)
        have c4 := c1
        obtain ⟨d1, ⟨y, y1, y2⟩, z, z1, z2⟩ := c4
        have := d1 y y1
        exact ⟨a, b, c1, c2, c3, by show lo (1 + (k : Int)) ≤ hi (1 + (k : Int)); omega⟩
      · cases e
    obtain ⟨lo, hi, hS⟩ := hS
    have HS := Lib.hid hS
    have fS := frozB kS
    have lS := blk_lt kS
    have HKS := Lib.hid kS
    have HUX := Lib.hid UX
    clear hS hQ UX HA
    go_wp2_with fail
    try rw [hX, e2]
    clear hX fS lS kS kW
    go_loopw [7, 8, 23] (fun b l i wr => ∃ k : Nat, k ≤ n ∧ i = .int .i64 k ∧ b = .int .i64 (T.wst (fun k => hi k - lo k) k).1 ∧ l = .int .i64 (T.wst (fun k => hi k - lo k) k).2 ∧ Up X wr) (fun _ _ i _ => n - (intOf i).toNat)
    case atStart => exact ⟨0, Nat.zero_le _, rfl, rfl, rfl, Up.refl X⟩
    case round =>
      obtain ⟨k, hk, rfl, rfl, rfl, V⟩ := hrel
      by_cases hlt : k < n
      · obtain ⟨c1, c2, _, bb⟩ := HS.out k hlt
        have HN := Lib.hid (show T.wst (fun k => hi k - lo k) (k + 1) = if (T.wst (fun k => hi k - lo k) k).2 < hi k - lo k then (k, hi k - lo k) else T.wst (fun k => hi k - lo k) k from rfl)
        have hC := Lib.hid (fun w => thingOf_any (k := 2) (by omega) (k : Int) (by omega) (by omega) w)
        generalize hst : T.wst (fun k => hi k - lo k) k = st at *
        obtain ⟨b, l⟩ := st
        generalize lo k = x at *
        generalize hi k = y at *
        have ew : IntKind.i64.wrap (y - x) = y - x := IntWalk.i64_in _ (by omega)
        obtain ⟨d, hd⟩ : ∃ z, y - x = z := ⟨_, rfl⟩
        replace ew := ew.trans hd
        rw [hd] at HN
        have ew2 : IntKind.i64.wrap d = d := IntWalk.i64_in _ (by omega)
        clear hst bb
        have hk8 : k < 8 := by omega
        go_wp2_with fail
        refine (hC.out _).mono ?_
        rintro e w1 ⟨rfl, u1⟩
        replace V := V.trans u1
        have kS := V.blk HKS.out
        have fS := frozB kS
        have lS := blk_lt kS
        have hsz := HS
        have j0 : (T.fst 2 + (k : Int)) = ((1 + k : Nat) : Int) := by show (1 : Int) + k = _; omega
        rw [j0]
        have j1 : 1 + k < 17 := by omega
        have j2 : ((1 + k : Nat) : Int) < 17 := by omega
        obtain ⟨i1, hi1⟩ : ∃ z, 1 + k = z := ⟨_, rfl⟩
        rw [hi1] at j1 j2 c1 c2 ⊢
        have V2 := V.alloc (.cells #[.int .i64 x, .int .i64 y] 23)
        clear hC u1 j0 hsz
        by_cases hl : l < d
        · rw [if_pos hl] at HN
          go_wp2
          go_roundw
          case rel => exact ⟨k + 1, by omega, by go_num, by rw [HN.out], by rw [HN.out], V2⟩
          case measure => simp [intOf]; omega
        · rw [if_neg hl] at HN
          go_wp2
          go_roundw
          case rel => exact ⟨k + 1, by omega, by go_num, by rw [HN.out], by rw [HN.out], V2⟩
          case measure => simp [intOf]; omega
      · obtain rfl : k = n := by omega
        have HS2 := Lib.hid (fun k hk => (HS.out k hk).2.2.1)
        have HW := Lib.hid (fun a b c h => show T.WorstIs ts k a b c from Or.inr ⟨lo, hi, HS2.out, h⟩)
        have UF := Lib.hid (HUX.out.trans V)
        generalize T.wst (fun k => hi k - lo k) k = st at *
        obtain ⟨b, l⟩ := st
        clear HS HS2
        by_cases hl : l = 0
        · subst hl
          have HW2 := Lib.hid (HW.out 0 0 4 (.inl ⟨rfl, rfl, rfl, rfl⟩))
          go_wp2
          go_ret3
          exact ⟨⟨0, 0, 4, rfl, HW2.out⟩, UF.out⟩
        · have hl2 : (l == 0) = false := beq_eq_false_iff_ne.2 hl
          have HW2 := Lib.hid (HW.out b l 0 (.inr ⟨hl, rfl, rfl, rfl⟩))
          go_wp2
          go_ret3
          exact ⟨⟨_, _, 0, rfl, HW2.out⟩, UF.out⟩
end

end Go.Proofs.Ytlpkheoljbdajaa
