import Derived.Test.YtlpkheoljbdajaaHol
/- The contract of newNumbers. -/
namespace Go.Proofs.Ytlpkheoljbdajaa
open Go.RowKit Go.Shelf

theorem offsets_pt (b : Nat) (w : World) : Calls Try.prog 113 #[.pointer (some ⟨b, 0, none⟩)] w fun e w' => e = .returned (.pointer (some ⟨b, 0, none⟩)) ∧ w = w' := by
  go_enter Try.func113, Try.ntmps113
  go_wp2
  go_ret
  exact ⟨rfl, rfl⟩
theorem people_pt (b : Nat) (w : World) : Calls Try.prog 107 #[.pointer (some ⟨b, 0, none⟩)] w fun e w' => e = .returned (.pointer (some ⟨b, 1, none⟩)) ∧ w = w' := by
  go_enter Try.func107, Try.ntmps107
  go_wp2
  go_ret
  exact ⟨rfl, rfl⟩
theorem paths_pt (b : Nat) (w : World) : Calls Try.prog 110 #[.pointer (some ⟨b, 0, none⟩)] w fun e w' => e = .returned (.pointer (some ⟨b, 2, none⟩)) ∧ w = w' := by
  go_enter Try.func110, Try.ntmps110
  go_wp2
  go_ret
  exact ⟨rfl, rfl⟩
/-- so many numbers laid from a place on -/
def T.lay (f : Int → Int) (a : Int) (g : Nat → Int) (j : Nat) : Int → Int := fun i => if a ≤ i ∧ i < a + j then g (i - a).toNat else f i
theorem T.lay_put (f : Int → Int) (a : Int) (g : Nat → Int) (j : Nat) (i : Int) : T.put (T.lay f a g j) (a + j) (g j) i = T.lay f a g (j + 1) i := by
  unfold T.put T.lay
  split
  · rename_i e
    rw [if_pos (by omega), show (i - a).toNat = j by omega]
  · split
    · rw [if_pos (by omega)]
    · rw [if_neg (by omega)]
theorem T.lay_zero (f : Int → Int) (a : Int) (g : Nat → Int) (i : Int) : T.lay f a g 0 i = f i := by
  unfold T.lay
  rw [if_neg (by omega)]
def T.neg (x : Int) : Int := IntKind.i64.wrap (-x)
/-- the numbers of a truth that is asked about -/
def T.nto (os pe pa : List Int) : Nat → Int → Int
  | 0 => fun _ => 0
  | 1 => T.lay (fun _ => 0) 9 (fun k => T.neg (pe.getD k 0)) pe.length
  | 2 => T.lay (T.lay (fun _ => 0) 9 (fun k => T.neg (pe.getD k 0)) pe.length) 13 (fun k => pa.getD k 0) pa.length
  | _ => T.lay (T.lay (T.lay (fun _ => 0) 9 (fun k => T.neg (pe.getD k 0)) pe.length) 13 (fun k => pa.getD k 0) pa.length) 1 (fun k => os.getD k 0) os.length
def T.fit (N : Int) (nP nQ : Nat) (os pe pa : List Int) : Bool := decide (pe.length = nP) && (decide (pa.length = nQ) && decide ((os.length : Int) = N))
def T.NumR (N : Int) (nP nQ : Nat) (os pe pa : List Int) (e : Ending) : Prop :=
  ∃ cs, e = .returned (.tuple #[.agg cs, .bool (T.fit N nP nQ os pe pa)]) ∧ (T.fit N nP nQ os pe pa = true → T.OC cs (T.nto os pe pa 3)) ∧ (T.fit N nP nQ os pe pa = false → cs = NZ)
section
variable {M bl bh rl rh : Int} {aP aQ aL aO aE aA : Option Addr} {nP cP nQ cQ nL cL cO cE cA : Nat} {o : Nat → Bool} {os pe pa : List Int}
set_option maxRecDepth 100000 in
set_option maxHeartbeats 4000000 in
theorem newNumbers_any {w : World} (hN : M ≤ 8) (hP : nP ≤ 4) (hQ : nQ ≤ 4) (IO : Ints w (.slice aO os.length cO) os) (IE : Ints w (.slice aE pe.length cE) pe) (IA : Ints w (.slice aA pa.length cA) pa)
    (bo : ∀ x ∈ os, D.in64 x) (ba : ∀ x ∈ pa, D.in64 x) :
    Calls Try.prog 56 #[BkV M bl bh rl rh (.slice aP nP cP) (.slice aQ nQ cQ) (.slice aL nL cL) o, .agg #[.slice aO os.length cO, .slice aE pe.length cE, .slice aA pa.length cA]] w fun e w' => T.NumR M nP nQ os pe pa e ∧ Up w w' := by
  have HO := Lib.hid IO
  have HE := Lib.hid IE
  have HA := Lib.hid IA
  have BO := Lib.hid bo
  have BA := Lib.hid ba
  have lo : os.length ≤ 9223372036854775807 := by obtain ⟨_, _, _, _, h, _⟩ := IO.is; exact h
  have le : pe.length ≤ 9223372036854775807 := by obtain ⟨_, _, _, _, h, _⟩ := IE.is; exact h
  have la : pa.length ≤ 9223372036854775807 := by obtain ⟨_, _, _, _, h, _⟩ := IA.is; exact h
  have HZ := Lib.hid NZ_size
  clear IO IE IA bo ba
  go_enter Try.func56, Try.ntmps56
  go_wp2_with fail
  obtain ⟨W0, hW0⟩ : ∃ x, ((((w.alloc (.cells (BkC M bl bh rl rh (.slice aP nP cP) (.slice aQ nQ cQ) (.slice aL nL cL) o) 81)).alloc (.cells #[.slice aO os.length cO, .slice aE pe.length cE, .slice aA pa.length cA] 30)).alloc (.cells NZ 85)).alloc (.cells NZ 85)).alloc (.cells #[.slice aO os.length cO, .slice aE pe.length cE, .slice aA pa.length cA] 128) = x := ⟨_, rfl⟩
  obtain ⟨q0, e0⟩ : ∃ x, w.heap.size = x := ⟨_, rfl⟩
  obtain ⟨q1, e1⟩ : ∃ x, q0 + 1 = x := ⟨_, rfl⟩
  obtain ⟨q2, e2⟩ : ∃ x, q1 + 1 = x := ⟨_, rfl⟩
  obtain ⟨q3, e3⟩ : ∃ x, q2 + 1 = x := ⟨_, rfl⟩
  obtain ⟨q4, e4⟩ : ∃ x, q3 + 1 = x := ⟨_, rfl⟩
  have U0 : Up w W0 := by rw [← hW0]; exact (((((Up.refl w).alloc _).alloc _).alloc _).alloc _).alloc _
  have kB : mblk W0 q0 = some (.cells (BkC M bl bh rl rh (.slice aP nP cP) (.slice aQ nQ cQ) (.slice aL nL cL) o) 81 (0, 0)) := by rw [← hW0]; exact blk_keep _ (blk_keep _ (blk_keep _ (blk_keep _ (blk_new _ _ _ e0.symm))))
  have kR : mblk W0 q2 = some (.cells NZ 85 (0, 0)) := by rw [← hW0]; exact blk_keep _ (blk_keep _ (blk_new _ _ _ (by simp; omega)))
  have kN : mblk W0 q3 = some (.cells NZ 85 (0, 0)) := by rw [← hW0]; exact blk_keep _ (blk_new _ _ _ (by simp; omega))
  have kT : mblk W0 q4 = some (.cells #[.slice aO os.length cO, .slice aE pe.length cE, .slice aA pa.length cA] 128 (0, 0)) := by rw [← hW0]; exact blk_new _ _ _ (by simp; omega)
  try rw [hW0, e0, e1, e2, e3, e4]
  clear hW0
  refine (kinds_any W0).mono ?_
  rintro e W1 ⟨rfl, u1⟩
  replace kN := u1.blk kN
  have UW := Lib.hid (U0.trans u1)
  have HKB := Lib.hid (u1.blk kB)
  have HKR := Lib.hid (u1.blk kR)
  have HKT := Lib.hid (u1.blk kT)
  clear kB kR kT U0 u1
  go_wp2_with fail
  go_loopw [16] (fun iv wr => ∃ (k : Nat) (ck : Array Value), k ≤ 3 ∧ iv = .int .i64 k ∧ mblk wr q3 = some (.cells ck 85 (0, 0)) ∧ T.OC ck (T.nto os pe pa k) ∧ Hid ((1 ≤ k → pe.length = nP) ∧ (2 ≤ k → pa.length = nQ) ∧ (3 ≤ k → (os.length : Int) = M)) ∧ W1.grownBy wr (some q3)) (fun iv _ => 3 - (intOf iv).toNat)
  case atStart => exact ⟨0, NZ, by omega, rfl, kN, NZ_oc, Lib.hid ⟨fun h => by omega, fun h => by omega, fun h => by omega⟩, up_grown (Up.refl W1) _⟩
  case round =>
    clear kN
    obtain ⟨k, ck, hk, rfl, kN, hC, hF, hG⟩ := hrel
    have kB := grown_blk hG HKB.out (fun e => by have := Option.some.inj e; omega)
    have kR := grown_blk hG HKR.out (fun e => by have := Option.some.inj e; omega)
    have kT := grown_blk hG HKT.out (fun e => by have := Option.some.inj e; omega)
    have hcase : k = 0 ∨ k = 1 ∨ k = 2 ∨ k = 3 := by omega
    rcases hcase with rfl | rfl | rfl | rfl
    · have HP1 := Lib.hid (fun w => people_pt q4 w)
      have HP2 := Lib.hid (fun w => people_any (N := M) (bl := bl) (bh := bh) (rl := rl) (rh := rh) (aP := aP) (nP := nP) (cP := cP) (aQ := aQ) (nQ := nQ) (cQ := cQ) (aL := aL) (nL := nL) (cL := cL) (o := o) w)
      obtain ⟨W2, hW2⟩ : ∃ x, wr.alloc (.cells #[.int .i64 9, .int .i64 (-1), .func (.func 105) #[] #[], .func (.func 106) #[] #[], .func (.func 107) #[] #[]] 133) = x := ⟨_, rfl⟩
      obtain ⟨q5, e5⟩ : ∃ x, wr.heap.size = x := ⟨_, rfl⟩
      have lq := blk_lt kN
      rw [e5] at lq
      have u2 : Up wr W2 := by rw [← hW2]; exact (Up.refl wr).alloc _
      have kK : mblk W2 q5 = some (.cells #[.int .i64 9, .int .i64 (-1), .func (.func 105) #[] #[], .func (.func 106) #[] #[], .func (.func 107) #[] #[]] 133 (0, 0)) := by rw [← hW2]; exact blk_new _ _ _ e5.symm
      replace kB := u2.blk kB
      replace kR := u2.blk kR
      replace kT := u2.blk kT
      replace kN := u2.blk kN
      have HG := Lib.hid (grown_trans hG (up_grown u2 (some q3)))
      have HC := Lib.hid hC
      clear hC hG u2
      go_wp2_with fail
      try rw [hW2, e5]
      refine (HP1.out _).mono ?_
      rintro e w6 ⟨rfl, rfl⟩
      go_wp2_with fail
      refine (HP2.out _).mono ?_
      rintro e W3 ⟨rfl, u3⟩
      replace kB := u3.blk kB
      replace kR := u3.blk kR
      replace kT := u3.blk kT
      replace kN := u3.blk kN
      replace kK := u3.blk kK
      replace HG := Lib.hid (grown_trans HG.out (up_grown u3 (some q3)))
      clear u3 HP1 HP2 hW2
      by_cases hlen : (pe.length : Int) = (nP : Int)
      · have hfin := Lib.hid (show (1 ≤ 1 → pe.length = nP) ∧ (2 ≤ 1 → pa.length = nQ) ∧ (3 ≤ 1 → (os.length : Int) = M) from ⟨fun _ => by omega, fun h => by omega, fun h => by omega⟩)
        have hq : ((pe.length : Int) != (nP : Int)) = false := by rw [bne_eq_false_iff_eq]; exact hlen
        have hl17 : 9 + pe.length ≤ 17 := by omega
        clear hF
        go_wp2_with fail
        go_loopw [34] (fun iv wr => ∃ (j : Nat) (ck : Array Value), j ≤ pe.length ∧ iv = .int .i64 j ∧ mblk wr q3 = some (.cells ck 85 (0, 0)) ∧ T.OC ck (T.lay (T.nto os pe pa 0) 9 (fun k => T.neg (pe.getD k 0)) j) ∧ W3.grownBy wr (some q3)) (fun iv _ => pe.length - (intOf iv).toNat)
        case atStart => exact ⟨0, ck, by omega, rfl, kN, HC.out.congr fun i _ _ => (T.lay_zero _ _ _ i).symm, up_grown (Up.refl W3) _⟩
        case round =>
          clear kN HC
          obtain ⟨j, ck, hj, rfl, kN, hC, hG⟩ := hrel
          have kK2 := grown_blk hG kK (fun e => by have := Option.some.inj e; omega)
          have UW3 := UW.out.grown (grown_trans HG.out hG) (fun k e => by have := Option.some.inj e; omega)
          by_cases hlt : j < pe.length
          · have hlt' : (j : Int) < pe.length := by omega
            obtain ⟨g, off, ha, gl, hc⟩ := (HE.out.up UW3).at (by omega)
            subst ha
            have c1 := hc j hlt
            have hb : True := trivial
            have hPut := Lib.hid ((hC.put (m := 9 + (j : Int)) (by omega) (by omega) ((fun k => T.neg (pe.getD k 0)) j)).congr (fun i _ _ => T.lay_put (T.nto os pe pa 0) 9 (fun k => T.neg (pe.getD k 0)) j i))
            simp only at hPut
            obtain ⟨x, hx⟩ : ∃ x, pe.getD j 0 = x := ⟨_, rfl⟩
            rw [hx] at c1 hPut
            obtain ⟨p, hp⟩ : ∃ p : Nat, 9 + j = p := ⟨_, rfl⟩
            have hp1 : ((9 : Int) + (j : Int)) = (p : Int) := by omega
            have hp2 : (9 + (j : Int)).toNat = p := by omega
            rw [hp2] at hPut
            have hp3 : p < 17 := by omega
            have hp4 : (p : Int) < 17 := by omega
            have ewp : IntKind.i64.wrap (p : Int) = p := IntWalk.i64_in _ (by omega)
            obtain ⟨v, hv⟩ : ∃ v, T.neg x = v := ⟨_, rfl⟩
            rw [hv] at hPut
            have ew : IntKind.i64.wrap (-x) = v := hv
            have hsz := hC.size
            have hlc : p < ck.size := by omega
            have cx : ∃ v, wr.cell? ⟨q3, p, none⟩ = some v := ⟨_, (cellB kN p).trans (Array.getElem?_eq_getElem hlc)⟩
            obtain ⟨vx, cx⟩ := cx
            have fN := frozB kN
            have lN := blk_lt kN
            have lK := blk_lt kK2
            have kN2 := Lib.hid (blk_put kN p (.int .i64 v))
            have HG2 := Lib.hid (grown_trans hG (grown_set wr q3 p (.int .i64 v)))
            clear hC hG hc UW3 hx hb hv
            go_wp2_with fail
            go_roundw
            case rel => exact ⟨j + 1, _, by omega, by go_num, kN2.out, hPut.out, HG2.out⟩
            case measure => simp [intOf]; omega
          · obtain rfl : j = pe.length := by omega
            have hlt' : ¬ ((pe.length : Nat) : Int) < pe.length := by omega
            have HG2 := Lib.hid (grown_trans HG.out hG)
            have HC2 := Lib.hid (show T.OC ck (T.nto os pe pa 1) from hC)
            clear hC hG UW3
            go_wp2_with fail
            go_roundw
            case rel => exact ⟨1, ck, by omega, by go_num, kN, HC2.out, hfin, HG2.out⟩
            case measure => simp [intOf]
      · have hq : ((pe.length : Int) != (nP : Int)) = true := by rw [bne_iff_ne]; exact hlen
        have hfit := Lib.hid (show T.fit M nP nQ os pe pa = false by unfold T.fit; rw [decide_eq_false (by omega : ¬ pe.length = nP), Bool.false_and])
        have hst : (numStore (.pointer (some ⟨q2, 0, none⟩)) (.agg #[.int .i64 0, .int .i64 0, .int .i64 0, .int .i64 0, .int .i64 0, .int .i64 0, .int .i64 0, .int .i64 0, .int .i64 0, .int .i64 0, .int .i64 0, .int .i64 0, .int .i64 0, .int .i64 0, .int .i64 0, .int .i64 0, .int .i64 0])).run Try.prog W3 = .ok () (W3.setRow q2 NZ) := run_numStore_row W3 q2 NZ NZ kR HZ NZ_ok
        have kF := Lib.hid (blk_setRow kR NZ)
        have UF := Lib.hid ((UW.out.grown HG.out (fun k e => by have := Option.some.inj e; omega)).grown (grown_row W3 q2 NZ) (fun k e => by have := Option.some.inj e; omega))
        clear hF HC kB kT kN kK
        go_wp2_with fail
        exact bodyPost_ret (results_nu rfl _ _ _ _ rfl kF.out HZ.out) rfl ⟨⟨NZ, by rw [hfit.out]; rfl, fun h => (by rw [hfit.out] at h; cases h), fun _ => rfl⟩, UF.out⟩
    · have HP1 := Lib.hid (fun w => paths_pt q4 w)
      have HP2 := Lib.hid (fun w => paths_any (N := M) (bl := bl) (bh := bh) (rl := rl) (rh := rh) (aP := aP) (nP := nP) (cP := cP) (aQ := aQ) (nQ := nQ) (cQ := cQ) (aL := aL) (nL := nL) (cL := cL) (o := o) w)
      obtain ⟨W2, hW2⟩ : ∃ x, wr.alloc (.cells #[.int .i64 13, .int .i64 1, .func (.func 108) #[] #[], .func (.func 109) #[] #[], .func (.func 110) #[] #[]] 133) = x := ⟨_, rfl⟩
      obtain ⟨q5, e5⟩ : ∃ x, wr.heap.size = x := ⟨_, rfl⟩
      have lq := blk_lt kN
      rw [e5] at lq
      have u2 : Up wr W2 := by rw [← hW2]; exact (Up.refl wr).alloc _
      have kK : mblk W2 q5 = some (.cells #[.int .i64 13, .int .i64 1, .func (.func 108) #[] #[], .func (.func 109) #[] #[], .func (.func 110) #[] #[]] 133 (0, 0)) := by rw [← hW2]; exact blk_new _ _ _ e5.symm
      replace kB := u2.blk kB
      replace kR := u2.blk kR
      replace kT := u2.blk kT
      replace kN := u2.blk kN
      have HG := Lib.hid (grown_trans hG (up_grown u2 (some q3)))
      have HC := Lib.hid hC
      clear hC hG u2
      go_wp2_with fail
      try rw [hW2, e5]
      refine (HP1.out _).mono ?_
      rintro e w6 ⟨rfl, rfl⟩
      go_wp2_with fail
      refine (HP2.out _).mono ?_
      rintro e W3 ⟨rfl, u3⟩
      replace kB := u3.blk kB
      replace kR := u3.blk kR
      replace kT := u3.blk kT
      replace kN := u3.blk kN
      replace kK := u3.blk kK
      replace HG := Lib.hid (grown_trans HG.out (up_grown u3 (some q3)))
      clear u3 HP1 HP2 hW2
      by_cases hlen : (pa.length : Int) = (nQ : Int)
      · have hfin := Lib.hid (show (1 ≤ 2 → pe.length = nP) ∧ (2 ≤ 2 → pa.length = nQ) ∧ (3 ≤ 2 → (os.length : Int) = M) from ⟨fun _ => hF.out.1 (by omega), fun h => by omega, fun h => by omega⟩)
        have hq : ((pa.length : Int) != (nQ : Int)) = false := by rw [bne_eq_false_iff_eq]; exact hlen
        have hl17 : 13 + pa.length ≤ 17 := by omega
        clear hF
        go_wp2_with fail
        go_loopw [34] (fun iv wr => ∃ (j : Nat) (ck : Array Value), j ≤ pa.length ∧ iv = .int .i64 j ∧ mblk wr q3 = some (.cells ck 85 (0, 0)) ∧ T.OC ck (T.lay (T.nto os pe pa 1) 13 (fun k => pa.getD k 0) j) ∧ W3.grownBy wr (some q3)) (fun iv _ => pa.length - (intOf iv).toNat)
        case atStart => exact ⟨0, ck, by omega, rfl, kN, HC.out.congr fun i _ _ => (T.lay_zero _ _ _ i).symm, up_grown (Up.refl W3) _⟩
        case round =>
          clear kN HC
          obtain ⟨j, ck, hj, rfl, kN, hC, hG⟩ := hrel
          have kK2 := grown_blk hG kK (fun e => by have := Option.some.inj e; omega)
          have UW3 := UW.out.grown (grown_trans HG.out hG) (fun k e => by have := Option.some.inj e; omega)
          by_cases hlt : j < pa.length
          · have hlt' : (j : Int) < pa.length := by omega
            obtain ⟨g, off, ha, gl, hc⟩ := (HA.out.up UW3).at (by omega)
            subst ha
            have c1 := hc j hlt
            have hb : D.in64 (pa.getD j 0) := BA.out _ (T.getD_mem hlt)
            have hPut := Lib.hid ((hC.put (m := 13 + (j : Int)) (by omega) (by omega) ((fun k => pa.getD k 0) j)).congr (fun i _ _ => T.lay_put (T.nto os pe pa 1) 13 (fun k => pa.getD k 0) j i))
            simp only at hPut
            obtain ⟨x, hx⟩ : ∃ x, pa.getD j 0 = x := ⟨_, rfl⟩
            rw [hx] at c1 hb hPut
            obtain ⟨p, hp⟩ : ∃ p : Nat, 13 + j = p := ⟨_, rfl⟩
            have hp1 : ((13 : Int) + (j : Int)) = (p : Int) := by omega
            have hp2 : (13 + (j : Int)).toNat = p := by omega
            rw [hp2] at hPut
            have hp3 : p < 17 := by omega
            have hp4 : (p : Int) < 17 := by omega
            have ewp : IntKind.i64.wrap (p : Int) = p := IntWalk.i64_in _ (by omega)
            have ew : IntKind.i64.wrap x = x := IntWalk.i64_in _ (by unfold D.in64 at hb; omega)
            skip
            skip
            have hsz := hC.size
            have hlc : p < ck.size := by omega
            have cx : ∃ v, wr.cell? ⟨q3, p, none⟩ = some v := ⟨_, (cellB kN p).trans (Array.getElem?_eq_getElem hlc)⟩
            obtain ⟨vx, cx⟩ := cx
            have fN := frozB kN
            have lN := blk_lt kN
            have lK := blk_lt kK2
            have kN2 := Lib.hid (blk_put kN p (.int .i64 x))
            have HG2 := Lib.hid (grown_trans hG (grown_set wr q3 p (.int .i64 x)))
            clear hC hG hc UW3 hx hb 
            go_wp2_with fail
            go_roundw
            case rel => exact ⟨j + 1, _, by omega, by go_num, kN2.out, hPut.out, HG2.out⟩
            case measure => simp [intOf]; omega
          · obtain rfl : j = pa.length := by omega
            have hlt' : ¬ ((pa.length : Nat) : Int) < pa.length := by omega
            have HG2 := Lib.hid (grown_trans HG.out hG)
            have HC2 := Lib.hid (show T.OC ck (T.nto os pe pa 2) from hC)
            clear hC hG UW3
            go_wp2_with fail
            go_roundw
            case rel => exact ⟨2, ck, by omega, by go_num, kN, HC2.out, hfin, HG2.out⟩
            case measure => simp [intOf]
      · have hq : ((pa.length : Int) != (nQ : Int)) = true := by rw [bne_iff_ne]; exact hlen
        have hfit := Lib.hid (show T.fit M nP nQ os pe pa = false by unfold T.fit; rw [decide_eq_false (by omega : ¬ pa.length = nQ), Bool.false_and, Bool.and_false])
        have hst : (numStore (.pointer (some ⟨q2, 0, none⟩)) (.agg #[.int .i64 0, .int .i64 0, .int .i64 0, .int .i64 0, .int .i64 0, .int .i64 0, .int .i64 0, .int .i64 0, .int .i64 0, .int .i64 0, .int .i64 0, .int .i64 0, .int .i64 0, .int .i64 0, .int .i64 0, .int .i64 0, .int .i64 0])).run Try.prog W3 = .ok () (W3.setRow q2 NZ) := run_numStore_row W3 q2 NZ NZ kR HZ NZ_ok
        have kF := Lib.hid (blk_setRow kR NZ)
        have UF := Lib.hid ((UW.out.grown HG.out (fun k e => by have := Option.some.inj e; omega)).grown (grown_row W3 q2 NZ) (fun k e => by have := Option.some.inj e; omega))
        clear hF HC kB kT kN kK
        go_wp2_with fail
        exact bodyPost_ret (results_nu rfl _ _ _ _ rfl kF.out HZ.out) rfl ⟨⟨NZ, by rw [hfit.out]; rfl, fun h => (by rw [hfit.out] at h; cases h), fun _ => rfl⟩, UF.out⟩
    · have HP1 := Lib.hid (fun w => offsets_pt q4 w)
      have HP2 := Lib.hid (fun w => nights_any (N := M) (bl := bl) (bh := bh) (rl := rl) (rh := rh) (aP := aP) (nP := nP) (cP := cP) (aQ := aQ) (nQ := nQ) (cQ := cQ) (aL := aL) (nL := nL) (cL := cL) (o := o) w)
      obtain ⟨W2, hW2⟩ : ∃ x, wr.alloc (.cells #[.int .i64 1, .int .i64 1, .func (.func 111) #[] #[], .func (.func 112) #[] #[], .func (.func 113) #[] #[]] 133) = x := ⟨_, rfl⟩
      obtain ⟨q5, e5⟩ : ∃ x, wr.heap.size = x := ⟨_, rfl⟩
      have lq := blk_lt kN
      rw [e5] at lq
      have u2 : Up wr W2 := by rw [← hW2]; exact (Up.refl wr).alloc _
      have kK : mblk W2 q5 = some (.cells #[.int .i64 1, .int .i64 1, .func (.func 111) #[] #[], .func (.func 112) #[] #[], .func (.func 113) #[] #[]] 133 (0, 0)) := by rw [← hW2]; exact blk_new _ _ _ e5.symm
      replace kB := u2.blk kB
      replace kR := u2.blk kR
      replace kT := u2.blk kT
      replace kN := u2.blk kN
      have HG := Lib.hid (grown_trans hG (up_grown u2 (some q3)))
      have HC := Lib.hid hC
      clear hC hG u2
      go_wp2_with fail
      try rw [hW2, e5]
      refine (HP1.out _).mono ?_
      rintro e w6 ⟨rfl, rfl⟩
      go_wp2_with fail
      refine (HP2.out _).mono ?_
      rintro e W3 ⟨rfl, u3⟩
      replace kB := u3.blk kB
      replace kR := u3.blk kR
      replace kT := u3.blk kT
      replace kN := u3.blk kN
      replace kK := u3.blk kK
      replace HG := Lib.hid (grown_trans HG.out (up_grown u3 (some q3)))
      clear u3 HP1 HP2 hW2
      by_cases hlen : (os.length : Int) = M
      · have hfin := Lib.hid (show (1 ≤ 3 → pe.length = nP) ∧ (2 ≤ 3 → pa.length = nQ) ∧ (3 ≤ 3 → (os.length : Int) = M) from ⟨fun _ => hF.out.1 (by omega), fun h => hF.out.2.1 (by omega), fun h => hlen⟩)
        have hq : ((os.length : Int) != M) = false := by rw [bne_eq_false_iff_eq]; exact hlen
        have hl17 : 1 + os.length ≤ 17 := by omega
        clear hF
        go_wp2_with fail
        go_loopw [34] (fun iv wr => ∃ (j : Nat) (ck : Array Value), j ≤ os.length ∧ iv = .int .i64 j ∧ mblk wr q3 = some (.cells ck 85 (0, 0)) ∧ T.OC ck (T.lay (T.nto os pe pa 2) 1 (fun k => os.getD k 0) j) ∧ W3.grownBy wr (some q3)) (fun iv _ => os.length - (intOf iv).toNat)
        case atStart => exact ⟨0, ck, by omega, rfl, kN, HC.out.congr fun i _ _ => (T.lay_zero _ _ _ i).symm, up_grown (Up.refl W3) _⟩
        case round =>
          clear kN HC
          obtain ⟨j, ck, hj, rfl, kN, hC, hG⟩ := hrel
          have kK2 := grown_blk hG kK (fun e => by have := Option.some.inj e; omega)
          have UW3 := UW.out.grown (grown_trans HG.out hG) (fun k e => by have := Option.some.inj e; omega)
          by_cases hlt : j < os.length
          · have hlt' : (j : Int) < os.length := by omega
            obtain ⟨g, off, ha, gl, hc⟩ := (HO.out.up UW3).at (by omega)
            subst ha
            have c1 := hc j hlt
            have hb : D.in64 (os.getD j 0) := BO.out _ (T.getD_mem hlt)
            have hPut := Lib.hid ((hC.put (m := 1 + (j : Int)) (by omega) (by omega) ((fun k => os.getD k 0) j)).congr (fun i _ _ => T.lay_put (T.nto os pe pa 2) 1 (fun k => os.getD k 0) j i))
            simp only at hPut
            obtain ⟨x, hx⟩ : ∃ x, os.getD j 0 = x := ⟨_, rfl⟩
            rw [hx] at c1 hb hPut
            obtain ⟨p, hp⟩ : ∃ p : Nat, 1 + j = p := ⟨_, rfl⟩
            have hp1 : ((1 : Int) + (j : Int)) = (p : Int) := by omega
            have hp2 : (1 + (j : Int)).toNat = p := by omega
            rw [hp2] at hPut
            have hp3 : p < 17 := by omega
            have hp4 : (p : Int) < 17 := by omega
            have ewp : IntKind.i64.wrap (p : Int) = p := IntWalk.i64_in _ (by omega)
            have ew : IntKind.i64.wrap x = x := IntWalk.i64_in _ (by unfold D.in64 at hb; omega)
            skip
            skip
            have hsz := hC.size
            have hlc : p < ck.size := by omega
            have cx : ∃ v, wr.cell? ⟨q3, p, none⟩ = some v := ⟨_, (cellB kN p).trans (Array.getElem?_eq_getElem hlc)⟩
            obtain ⟨vx, cx⟩ := cx
            have fN := frozB kN
            have lN := blk_lt kN
            have lK := blk_lt kK2
            have kN2 := Lib.hid (blk_put kN p (.int .i64 x))
            have HG2 := Lib.hid (grown_trans hG (grown_set wr q3 p (.int .i64 x)))
            clear hC hG hc UW3 hx hb 
            go_wp2_with fail
            go_roundw
            case rel => exact ⟨j + 1, _, by omega, by go_num, kN2.out, hPut.out, HG2.out⟩
            case measure => simp [intOf]; omega
          · obtain rfl : j = os.length := by omega
            have hlt' : ¬ ((os.length : Nat) : Int) < os.length := by omega
            have HG2 := Lib.hid (grown_trans HG.out hG)
            have HC2 := Lib.hid (show T.OC ck (T.nto os pe pa 3) from hC)
            clear hC hG UW3
            go_wp2_with fail
            go_roundw
            case rel => exact ⟨3, ck, by omega, by go_num, kN, HC2.out, hfin, HG2.out⟩
            case measure => simp [intOf]
      · have hq : ((os.length : Int) != M) = true := by rw [bne_iff_ne]; exact hlen
        have hfit := Lib.hid (show T.fit M nP nQ os pe pa = false by unfold T.fit; rw [decide_eq_false hlen, Bool.and_false, Bool.and_false])
        have hst : (numStore (.pointer (some ⟨q2, 0, none⟩)) (.agg #[.int .i64 0, .int .i64 0, .int .i64 0, .int .i64 0, .int .i64 0, .int .i64 0, .int .i64 0, .int .i64 0, .int .i64 0, .int .i64 0, .int .i64 0, .int .i64 0, .int .i64 0, .int .i64 0, .int .i64 0, .int .i64 0, .int .i64 0])).run Try.prog W3 = .ok () (W3.setRow q2 NZ) := run_numStore_row W3 q2 NZ NZ kR HZ NZ_ok
        have kF := Lib.hid (blk_setRow kR NZ)
        have UF := Lib.hid ((UW.out.grown HG.out (fun k e => by have := Option.some.inj e; omega)).grown (grown_row W3 q2 NZ) (fun k e => by have := Option.some.inj e; omega))
        clear hF HC kB kT kN kK
        go_wp2_with fail
        exact bodyPost_ret (results_nu rfl _ _ _ _ rfl kF.out HZ.out) rfl ⟨⟨NZ, by rw [hfit.out]; rfl, fun h => (by rw [hfit.out] at h; cases h), fun _ => rfl⟩, UF.out⟩
    · have hsz := Lib.hid hC.size
      have hok := hC.one
      have hfit := Lib.hid (show T.fit M nP nQ os pe pa = true by unfold T.fit; rw [decide_eq_true (hF.out.1 (by omega)), decide_eq_true (hF.out.2.1 (by omega)), decide_eq_true (hF.out.2.2 (by omega))]; rfl)
      have HC := Lib.hid hC
      have hst := run_numStore_row wr q2 NZ ck kR HZ hok
      have kF := Lib.hid (blk_setRow kR ck)
      have UF := Lib.hid ((UW.out.grown hG (fun k e => by have := Option.some.inj e; omega)).grown (grown_row wr q2 ck) (fun k e => by have := Option.some.inj e; omega))
      clear hF hC hG kB kT
      go_wp2_with fail
      exact bodyPost_ret (results_nu rfl _ _ _ _ rfl kF.out hsz.out) rfl ⟨⟨ck, by rw [hfit.out]; rfl, fun _ => HC.out, fun h => (by rw [hfit.out] at h; cases h)⟩, UF.out⟩
end

end Go.Proofs.Ytlpkheoljbdajaa
