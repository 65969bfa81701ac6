import Derived.Test.YtlpkheoljbdajaaNar
/- The contract of farthest, to each side. -/
namespace Go.Proofs.Ytlpkheoljbdajaa
open Go.RowKit Go.Shelf

theorem T.OC.congr {cs : Array Value} {f g : Int → Int} (h : T.OC cs f) (e : ∀ i : Int, 0 ≤ i → i ≤ 16 → f i = g i) : T.OC cs g := ⟨h.size, fun i hi => by rw [h.at_ i hi, e i (by omega) (by omega)]⟩
theorem results_nu {fn : Func} {p u : Tmp} (h : fn.results = #[.cell p 85, .tmp u]) (tmps : Array Value) (w : World) (g : Nat) (cs : Array Value) (hp : tmps.getD p undef = .pointer (some ⟨g, 0, none⟩)) (hg : mblk w g = some (.cells cs 85 (0, 0))) (hs : cs.size = 17) :
    (results fn tmps).run Try.prog w = .ok (.tuple #[.agg cs, tmps.getD u undef]) w := by
  rw [results_cell_tmp h, hp]
  simp only [asAddr, Sem.run_pure, Result.andThen_ok, run_loadVar_row w g 85 85 cs (0, 0) _ hg Try.underlying85 rfl (by rw [infoNum, hs])]
/-- the first k not known, the rest 0 -/
def T.ini (k : Nat) : Int → Int := fun i => if i < k then T.M else 0
theorem T.ini_put (k : Nat) (i : Int) : T.put (T.ini k) k 9223372036854775807 i = T.ini (k + 1) i := by
  unfold T.put T.ini T.M
  split
  · rw [if_pos (by omega)]
  · split
    · rw [if_pos (by omega)]
    · rw [if_neg (by omega)]
theorem T.ini_d0 (m i : Int) (h : i ≤ 16) : T.put (T.ini 17) m 0 i = T.d0 m i := by
  unfold T.put T.ini T.d0 T.M
  split
  · rfl
  · rw [if_pos (by omega)]
def T.FarR (ah : Bool) (ts : List T.T4) (m : Int) (e : Ending) : Prop := ∃ cs r, e = .returned (.tuple #[.agg cs, .bool r]) ∧ T.FarIs ah ts m cs r
def T.same (ah : Bool) (ts : List T.T4) (m : Int) (j : Nat) : Prop := ∀ i : Int, 0 ≤ i → i ≤ 16 → T.rnds ah ts (T.d0 m) (j + 1) i = T.rnds ah ts (T.d0 m) j i
section
variable {N bl bh rl rh : Int} {aP aQ aL aT : Option Addr} {nP cP nQ cQ nL cL nT cT : Nat} {o : Nat → Bool}
set_option maxRecDepth 100000 in
set_option maxHeartbeats 2000000 in
theorem farthest_up {w0 w : World} {ts : List T.T4} {m : Int} (I : Tis w0 (.slice aT nT cT) ts) (hu : Up w0 w) (hts : T.Tin ts) (hl : ts.length ≤ 300) (hm : 0 ≤ m ∧ m ≤ 16) :
    Calls Try.prog 71 #[WeV N bl bh rl rh (.slice aP nP cP) (.slice aQ nQ cQ) (.slice aL nL cL) o (.slice aT nT cT), .int .i64 m, AhV] w fun e w' => T.FarR true ts m e ∧ Up w w' := by
  have HN := Lib.hid (fun (w1 : World) (B : Nat) (cs : Array Value) (f : Int → Int) (h1 : Up w0 w1) (h2 : w0.heap.size ≤ B) (h3 : T.OC cs f) (h4 : T.Bn 900000000000 f) (h5 : mblk w1 B = some (.cells cs 85 (0, 0))) => narrow_up (N := N) (bl := bl) (bh := bh) (rl := rl) (rh := rh) (aP := aP) (nP := nP) (cP := cP) (aQ := aQ) (nQ := nQ) (cQ := cQ) (aL := aL) (nL := nL) (cL := cL) (o := o) (cT := cT) I h1 h2 hts hl h3 h4 h5)
  have HB := Lib.hid (fun (k : Nat) (hk : k ≤ 20) => T.Bn.rnds (ah := true) (m := m) hl (fun t ht => (hts t ht).2.2) k hk)
  have HU := Lib.hid hu
  obtain ⟨m1, m2⟩ := hm
  obtain ⟨m, rfl⟩ := Int.eq_ofNat_of_zero_le m1
  clear I hts hl hu m1
  have hm3 : m < 17 := by omega
  have hm4 : (m : Int) < 17 := by omega
  go_enter Try.func71, Try.ntmps71
  go_wp2_with fail
  obtain ⟨q0, e0⟩ : ∃ x, w.heap.size = x := ⟨_, rfl⟩
  obtain ⟨q1, e1⟩ : ∃ x, q0 + 1 = x := ⟨_, rfl⟩
  obtain ⟨q2, e2⟩ : ∃ x, q1 + 1 = x := ⟨_, rfl⟩
  obtain ⟨q3, e3⟩ : ∃ x, q2 + 1 = x := ⟨_, rfl⟩
  obtain ⟨W0, hW0⟩ : ∃ x, (((w.alloc (.cells (WeC N bl bh rl rh (.slice aP nP cP) (.slice aQ nQ cQ) (.slice aL nL cL) o (.slice aT nT cT)) 90)).alloc (.cells #[.func (.func 117) #[] #[], .int .i64 1] 108)).alloc (.cells NZ 85)).alloc (.cells NZ 85) = x := ⟨_, rfl⟩
  have U0 : Up w W0 := by rw [← hW0]; exact ((((Up.refl w).alloc _).alloc _).alloc _).alloc _
  have kW : mblk W0 q0 = some (.cells (WeC N bl bh rl rh (.slice aP nP cP) (.slice aQ nQ cQ) (.slice aL nL cL) o (.slice aT nT cT)) 90 (0, 0)) := by rw [← hW0]; exact blk_keep _ (blk_keep _ (blk_keep _ (blk_new _ _ _ e0.symm)))
  have kS : mblk W0 q1 = some (.cells #[.func (.func 117) #[] #[], .int .i64 1] 108 (0, 0)) := by rw [← hW0]; exact blk_keep _ (blk_keep _ (blk_new _ _ _ (by simp; omega)))
  have kR : mblk W0 q2 = some (.cells NZ 85 (0, 0)) := by rw [← hW0]; exact blk_keep _ (blk_new _ _ _ (by simp; omega))
  have kN : mblk W0 q3 = some (.cells NZ 85 (0, 0)) := by rw [← hW0]; exact blk_new _ _ _ (by simp; omega)
  have z0 : W0.heap.size = q3 + 1 := by rw [← hW0]; simp; omega
  rw [hW0, e0, e1, e2, e3]
  clear hW0
  have HKW := Lib.hid kW
  have HKS := Lib.hid kS
  have HKR := Lib.hid kR
  have HUW := Lib.hid U0
  have HZ := Lib.hid NZ_size
  clear kW kS kR U0
  go_loopw [11] (fun iv wr => ∃ (k : Nat) (ck : Array Value), k ≤ 17 ∧ iv = .int .i64 k ∧ mblk wr q3 = some (.cells ck 85 (0, 0)) ∧ T.OC ck (T.ini k) ∧ W0.grownBy wr (some q3)) (fun iv _ => 17 - (intOf iv).toNat)
  case atStart => exact ⟨0, NZ, by omega, rfl, kN, NZ_oc.congr fun i h1 _ => by unfold T.ini; rw [if_neg (by omega)], up_grown (Up.refl W0) _⟩
  case round =>
    clear kN
    obtain ⟨k, ck, hk, rfl, kN, hO, hG⟩ := hrel
    have hsz := hO.size
    have fN := frozB kN
    by_cases hlt : k < 17
    · have hlt' : (k : Int) < 17 := by omega
      have hlt2 : k < ck.size := by omega
      have cN : ∃ v, wr.cell? ⟨q3, k, none⟩ = some v := ⟨_, (cellB kN k).trans (Array.getElem?_eq_getElem hlt2)⟩
      obtain ⟨vx, cN⟩ := cN
      have lN := blk_lt kN
      have HO := Lib.hid (hO.put (m := (k : Int)) (by omega) (by omega) 9223372036854775807)
      have kN2 := Lib.hid (blk_put kN k (.int .i64 9223372036854775807))
      have HG := Lib.hid (grown_trans hG (grown_set wr q3 k (.int .i64 9223372036854775807)))
      clear hO hG hsz
      go_wp2
      go_roundw
      case rel => exact ⟨k + 1, _, by omega, by go_num, kN2.out, HO.out.congr fun i h1 _ => T.ini_put k i, HG.out⟩
      case measure => simp [intOf]; omega
    · obtain rfl : k = 17 := by omega
      have hlt' : ¬ ((17 : Nat) : Int) < 17 := by omega
      have hlt2 : m < ck.size := by omega
      have cN : ∃ v, wr.cell? ⟨q3, m, none⟩ = some v := ⟨_, (cellB kN m).trans (Array.getElem?_eq_getElem hlt2)⟩
      obtain ⟨vx, cN⟩ := cN
      have lN := blk_lt kN
      have HO := Lib.hid ((hO.put (m := (m : Int)) (by omega) (by omega) 0).congr fun i _ h2 => T.ini_d0 m i h2)
      have kN2 := Lib.hid (blk_put kN m (.int .i64 0))
      have HG := Lib.hid (grown_trans hG (grown_set wr q3 m (.int .i64 0)))
      clear hO hG hsz
      go_wp2_with fail
      obtain ⟨X, hX⟩ : ∃ x, wr.setCell ⟨q3, m, none⟩ (.int .i64 0) = x := ⟨_, rfl⟩
      replace kN2 := kN2.out
      replace HG := HG.out
      rw [hX] at kN2 HG
      try rw [hX]
      clear hX cN fN kN lN
      go_loopw [19] (fun iv wr => ∃ (j : Nat) (ck : Array Value), j ≤ 17 ∧ iv = .int .i64 j ∧ mblk wr q3 = some (.cells ck 85 (0, 0)) ∧ T.OC ck (T.rnds true ts (T.d0 m) j) ∧ Hid (∀ i, i < j → ¬ T.same true ts m i) ∧ W0.grownBy wr (some q3)) (fun iv _ => 17 - (intOf iv).toNat)
      case atStart => exact ⟨0, _, by omega, rfl, kN2, HO.out, Lib.hid (fun i hi => absurd hi (by omega)), HG⟩
      case round =>
        clear kN2 HG HO
        obtain ⟨j, ck, hj, rfl, kN, hO, hS, hG⟩ := hrel
        have kW := grown_blk hG HKW.out (fun e => by have := Option.some.inj e; omega)
        have kS := grown_blk hG HKS.out (fun e => by have := Option.some.inj e; omega)
        have kR := grown_blk hG HKR.out (fun e => by have := Option.some.inj e; omega)
        by_cases hlt : j < 17
        · have hlt' : (j : Int) < 17 := by omega
          have hsz := Lib.hid hO.size
          have hok := hO.one
          have lN := blk_lt kN
          have lW := blk_lt kW
          have lS := blk_lt kS
          have lR := blk_lt kR
          have HO := Lib.hid hO
          have V0 := (Up.refl wr).alloc (.cells ck 85)
          obtain ⟨qb, eb⟩ : ∃ x, wr.heap.size = x := ⟨_, rfl⟩
          have kB := blk_new wr (.cells ck 85) _ eb.symm
          have kW1 := V0.blk kW
          have kS1 := V0.blk kS
          have kR1 := V0.blk kR
          have kN1 := V0.blk kN
          have HG := Lib.hid (grown_trans hG (up_grown V0 (some q3)))
          rw [eb] at lN lW lS lR
          clear hO hG kW kS kR V0
          go_wp2_with fail
          obtain ⟨X1, hX1⟩ : ∃ x, wr.alloc (.cells ck 85) = x := ⟨_, rfl⟩
          replace HG := HG.out
          rw [hX1] at kB kW1 kS1 kR1 kN1 HG
          try rw [hX1]
          clear hX1
          have sz := HU.out.size
          have U1 := (HU.out.trans HUW.out).grown HG (fun k e => by have := Option.some.inj e; omega)
          refine (HN.out X1 q3 ck _ U1 (by omega) HO.out ((HB.out j (by omega)).mono (by omega)) kN1).mono ?_
          rintro e Y ⟨rfl, ⟨cn, kN, hO2⟩, hG2⟩
          replace kB := grown_blk hG2 kB (fun e => by have := Option.some.inj e; omega)
          replace kW1 := grown_blk hG2 kW1 (fun e => by have := Option.some.inj e; omega)
          replace kS1 := grown_blk hG2 kS1 (fun e => by have := Option.some.inj e; omega)
          replace kR1 := grown_blk hG2 kR1 (fun e => by have := Option.some.inj e; omega)
          replace HG := grown_trans HG hG2
          obtain ⟨r, hr, heq⟩ := eqNum hO2 HO.out ((HB.out (j + 1) (by omega)).fine (by omega)) ((HB.out j (by omega)).fine (by omega))
          have hszn := Lib.hid hO2.size
          have hokn := hO2.one
          have HO2 := Lib.hid hO2
          have HR := Lib.hid hr
          have HGG := Lib.hid HG
          clear hG2 U1 hO2 hr HG kN1 HN
          cases r with
          | true =>
            have hs := Lib.hid (show T.same true ts m j from HR.out.1 rfl)
            have hst := run_numStore_row Y q2 NZ cn kR1 HZ hokn
            have kF := Lib.hid (blk_setRow kR1 cn)
            have UF := Lib.hid ((HUW.out.grown HGG.out (fun k e => by have := Option.some.inj e; omega)).grown (grown_row Y q2 cn) (fun k e => by have := Option.some.inj e; omega))
            go_wp2_with fail
            exact bodyPost_ret (results_nu rfl _ _ _ _ rfl kF.out hszn.out) rfl ⟨⟨cn, true, rfl, .inl ⟨rfl, j, hlt, hs.out, HO2.out⟩⟩, UF.out⟩
          | false =>
            have hne := Lib.hid (fun i (hi : i < j + 1) => if e : i = j then (fun h => Bool.false_ne_true (HR.out.2 (e ▸ h))) else hS.out i (by omega) : ∀ i, i < j + 1 → ¬ T.same true ts m i)
            go_wp2_with fail
            go_roundw
            case rel => exact ⟨j + 1, cn, by omega, by go_num, kN, HO2.out, hne, HGG.out⟩
            case measure => simp [intOf]; omega
        · obtain rfl : j = 17 := by omega
          have hlt' : ¬ ((17 : Nat) : Int) < 17 := by omega
          have hst : (numStore (.pointer (some ⟨q2, 0, none⟩)) (.agg #[.int .i64 0, .int .i64 0, .int .i64 0, .int .i64 0, .int .i64 0, .int .i64 0, .int .i64 0, .int .i64 0, .int .i64 0, .int .i64 0, .int .i64 0, .int .i64 0, .int .i64 0, .int .i64 0, .int .i64 0, .int .i64 0, .int .i64 0])).run Try.prog wr = .ok () (wr.setRow q2 NZ) := run_numStore_row wr q2 NZ NZ kR HZ NZ_ok
          have kF := Lib.hid (blk_setRow kR NZ)
          have UF := Lib.hid ((HUW.out.grown hG (fun k e => by have := Option.some.inj e; omega)).grown (grown_row wr q2 NZ) (fun k e => by have := Option.some.inj e; omega))
          clear hO hG kN
          go_wp2_with fail
          exact bodyPost_ret (results_nu rfl _ _ _ _ rfl kF.out HZ.out) rfl ⟨⟨NZ, false, rfl, .inr ⟨rfl, rfl, hS.out⟩⟩, UF.out⟩
set_option maxRecDepth 100000 in
set_option maxHeartbeats 2000000 in
theorem farthest_dn {w0 w : World} {ts : List T.T4} {m : Int} (I : Tis w0 (.slice aT nT cT) ts) (hu : Up w0 w) (hts : T.Tin ts) (hl : ts.length ≤ 300) (hm : 0 ≤ m ∧ m ≤ 16) :
    Calls Try.prog 71 #[WeV N bl bh rl rh (.slice aP nP cP) (.slice aQ nQ cQ) (.slice aL nL cL) o (.slice aT nT cT), .int .i64 m, BeV] w fun e w' => T.FarR false ts m e ∧ Up w w' := by
  have HN := Lib.hid (fun (w1 : World) (B : Nat) (cs : Array Value) (f : Int → Int) (h1 : Up w0 w1) (h2 : w0.heap.size ≤ B) (h3 : T.OC cs f) (h4 : T.Bn 900000000000 f) (h5 : mblk w1 B = some (.cells cs 85 (0, 0))) => narrow_dn (N := N) (bl := bl) (bh := bh) (rl := rl) (rh := rh) (aP := aP) (nP := nP) (cP := cP) (aQ := aQ) (nQ := nQ) (cQ := cQ) (aL := aL) (nL := nL) (cL := cL) (o := o) (cT := cT) I h1 h2 hts hl h3 h4 h5)
  have HB := Lib.hid (fun (k : Nat) (hk : k ≤ 20) => T.Bn.rnds (ah := false) (m := m) hl (fun t ht => (hts t ht).2.2) k hk)
  have HU := Lib.hid hu
  obtain ⟨m1, m2⟩ := hm
  obtain ⟨m, rfl⟩ := Int.eq_ofNat_of_zero_le m1
  clear I hts hl hu m1
  have hm3 : m < 17 := by omega
  have hm4 : (m : Int) < 17 := by omega
  go_enter Try.func71, Try.ntmps71
  go_wp2_with fail
  obtain ⟨q0, e0⟩ : ∃ x, w.heap.size = x := ⟨_, rfl⟩
  obtain ⟨q1, e1⟩ : ∃ x, q0 + 1 = x := ⟨_, rfl⟩
  obtain ⟨q2, e2⟩ : ∃ x, q1 + 1 = x := ⟨_, rfl⟩
  obtain ⟨q3, e3⟩ : ∃ x, q2 + 1 = x := ⟨_, rfl⟩
  obtain ⟨W0, hW0⟩ : ∃ x, (((w.alloc (.cells (WeC N bl bh rl rh (.slice aP nP cP) (.slice aQ nQ cQ) (.slice aL nL cL) o (.slice aT nT cT)) 90)).alloc (.cells #[.func (.func 118) #[] #[], .int .i64 (-1)] 108)).alloc (.cells NZ 85)).alloc (.cells NZ 85) = x := ⟨_, rfl⟩
  have U0 : Up w W0 := by rw [← hW0]; exact ((((Up.refl w).alloc _).alloc _).alloc _).alloc _
  have kW : mblk W0 q0 = some (.cells (WeC N bl bh rl rh (.slice aP nP cP) (.slice aQ nQ cQ) (.slice aL nL cL) o (.slice aT nT cT)) 90 (0, 0)) := by rw [← hW0]; exact blk_keep _ (blk_keep _ (blk_keep _ (blk_new _ _ _ e0.symm)))
  have kS : mblk W0 q1 = some (.cells #[.func (.func 118) #[] #[], .int .i64 (-1)] 108 (0, 0)) := by rw [← hW0]; exact blk_keep _ (blk_keep _ (blk_new _ _ _ (by simp; omega)))
  have kR : mblk W0 q2 = some (.cells NZ 85 (0, 0)) := by rw [← hW0]; exact blk_keep _ (blk_new _ _ _ (by simp; omega))
  have kN : mblk W0 q3 = some (.cells NZ 85 (0, 0)) := by rw [← hW0]; exact blk_new _ _ _ (by simp; omega)
  have z0 : W0.heap.size = q3 + 1 := by rw [← hW0]; simp; omega
  rw [hW0, e0, e1, e2, e3]
  clear hW0
  have HKW := Lib.hid kW
  have HKS := Lib.hid kS
  have HKR := Lib.hid kR
  have HUW := Lib.hid U0
  have HZ := Lib.hid NZ_size
  clear kW kS kR U0
  go_loopw [11] (fun iv wr => ∃ (k : Nat) (ck : Array Value), k ≤ 17 ∧ iv = .int .i64 k ∧ mblk wr q3 = some (.cells ck 85 (0, 0)) ∧ T.OC ck (T.ini k) ∧ W0.grownBy wr (some q3)) (fun iv _ => 17 - (intOf iv).toNat)
  case atStart => exact ⟨0, NZ, by omega, rfl, kN, NZ_oc.congr fun i h1 _ => by unfold T.ini; rw [if_neg (by omega)], up_grown (Up.refl W0) _⟩
  case round =>
    clear kN
    obtain ⟨k, ck, hk, rfl, kN, hO, hG⟩ := hrel
    have hsz := hO.size
    have fN := frozB kN
    by_cases hlt : k < 17
    · have hlt' : (k : Int) < 17 := by omega
      have hlt2 : k < ck.size := by omega
      have cN : ∃ v, wr.cell? ⟨q3, k, none⟩ = some v := ⟨_, (cellB kN k).trans (Array.getElem?_eq_getElem hlt2)⟩
      obtain ⟨vx, cN⟩ := cN
      have lN := blk_lt kN
      have HO := Lib.hid (hO.put (m := (k : Int)) (by omega) (by omega) 9223372036854775807)
      have kN2 := Lib.hid (blk_put kN k (.int .i64 9223372036854775807))
      have HG := Lib.hid (grown_trans hG (grown_set wr q3 k (.int .i64 9223372036854775807)))
      clear hO hG hsz
      go_wp2
      go_roundw
      case rel => exact ⟨k + 1, _, by omega, by go_num, kN2.out, HO.out.congr fun i h1 _ => T.ini_put k i, HG.out⟩
      case measure => simp [intOf]; omega
    · obtain rfl : k = 17 := by omega
      have hlt' : ¬ ((17 : Nat) : Int) < 17 := by omega
      have hlt2 : m < ck.size := by omega
      have cN : ∃ v, wr.cell? ⟨q3, m, none⟩ = some v := ⟨_, (cellB kN m).trans (Array.getElem?_eq_getElem hlt2)⟩
      obtain ⟨vx, cN⟩ := cN
      have lN := blk_lt kN
      have HO := Lib.hid ((hO.put (m := (m : Int)) (by omega) (by omega) 0).congr fun i _ h2 => T.ini_d0 m i h2)
      have kN2 := Lib.hid (blk_put kN m (.int .i64 0))
      have HG := Lib.hid (grown_trans hG (grown_set wr q3 m (.int .i64 0)))
      clear hO hG hsz
      go_wp2_with fail
      obtain ⟨X, hX⟩ : ∃ x, wr.setCell ⟨q3, m, none⟩ (.int .i64 0) = x := ⟨_, rfl⟩
      replace kN2 := kN2.out
      replace HG := HG.out
      rw [hX] at kN2 HG
      try rw [hX]
      clear hX cN fN kN lN
      go_loopw [19] (fun iv wr => ∃ (j : Nat) (ck : Array Value), j ≤ 17 ∧ iv = .int .i64 j ∧ mblk wr q3 = some (.cells ck 85 (0, 0)) ∧ T.OC ck (T.rnds false ts (T.d0 m) j) ∧ Hid (∀ i, i < j → ¬ T.same false ts m i) ∧ W0.grownBy wr (some q3)) (fun iv _ => 17 - (intOf iv).toNat)
      case atStart => exact ⟨0, _, by omega, rfl, kN2, HO.out, Lib.hid (fun i hi => absurd hi (by omega)), HG⟩
      case round =>
        clear kN2 HG HO
        obtain ⟨j, ck, hj, rfl, kN, hO, hS, hG⟩ := hrel
        have kW := grown_blk hG HKW.out (fun e => by have := Option.some.inj e; omega)
        have kS := grown_blk hG HKS.out (fun e => by have := Option.some.inj e; omega)
        have kR := grown_blk hG HKR.out (fun e => by have := Option.some.inj e; omega)
        by_cases hlt : j < 17
        · have hlt' : (j : Int) < 17 := by omega
          have hsz := Lib.hid hO.size
          have hok := hO.one
          have lN := blk_lt kN
          have lW := blk_lt kW
          have lS := blk_lt kS
          have lR := blk_lt kR
          have HO := Lib.hid hO
          have V0 := (Up.refl wr).alloc (.cells ck 85)
          obtain ⟨qb, eb⟩ : ∃ x, wr.heap.size = x := ⟨_, rfl⟩
          have kB := blk_new wr (.cells ck 85) _ eb.symm
          have kW1 := V0.blk kW
          have kS1 := V0.blk kS
          have kR1 := V0.blk kR
          have kN1 := V0.blk kN
          have HG := Lib.hid (grown_trans hG (up_grown V0 (some q3)))
          rw [eb] at lN lW lS lR
          clear hO hG kW kS kR V0
          go_wp2_with fail
          obtain ⟨X1, hX1⟩ : ∃ x, wr.alloc (.cells ck 85) = x := ⟨_, rfl⟩
          replace HG := HG.out
          rw [hX1] at kB kW1 kS1 kR1 kN1 HG
          try rw [hX1]
          clear hX1
          have sz := HU.out.size
          have U1 := (HU.out.trans HUW.out).grown HG (fun k e => by have := Option.some.inj e; omega)
          refine (HN.out X1 q3 ck _ U1 (by omega) HO.out ((HB.out j (by omega)).mono (by omega)) kN1).mono ?_
          rintro e Y ⟨rfl, ⟨cn, kN, hO2⟩, hG2⟩
          replace kB := grown_blk hG2 kB (fun e => by have := Option.some.inj e; omega)
          replace kW1 := grown_blk hG2 kW1 (fun e => by have := Option.some.inj e; omega)
          replace kS1 := grown_blk hG2 kS1 (fun e => by have := Option.some.inj e; omega)
          replace kR1 := grown_blk hG2 kR1 (fun e => by have := Option.some.inj e; omega)
          replace HG := grown_trans HG hG2
          obtain ⟨r, hr, heq⟩ := eqNum hO2 HO.out ((HB.out (j + 1) (by omega)).fine (by omega)) ((HB.out j (by omega)).fine (by omega))
          have hszn := Lib.hid hO2.size
          have hokn := hO2.one
          have HO2 := Lib.hid hO2
          have HR := Lib.hid hr
          have HGG := Lib.hid HG
          clear hG2 U1 hO2 hr HG kN1 HN
          cases r with
          | true =>
            have hs := Lib.hid (show T.same false ts m j from HR.out.1 rfl)
            have hst := run_numStore_row Y q2 NZ cn kR1 HZ hokn
            have kF := Lib.hid (blk_setRow kR1 cn)
            have UF := Lib.hid ((HUW.out.grown HGG.out (fun k e => by have := Option.some.inj e; omega)).grown (grown_row Y q2 cn) (fun k e => by have := Option.some.inj e; omega))
            go_wp2_with fail
            exact bodyPost_ret (results_nu rfl _ _ _ _ rfl kF.out hszn.out) rfl ⟨⟨cn, true, rfl, .inl ⟨rfl, j, hlt, hs.out, HO2.out⟩⟩, UF.out⟩
          | false =>
            have hne := Lib.hid (fun i (hi : i < j + 1) => if e : i = j then (fun h => Bool.false_ne_true (HR.out.2 (e ▸ h))) else hS.out i (by omega) : ∀ i, i < j + 1 → ¬ T.same false ts m i)
            go_wp2_with fail
            go_roundw
            case rel => exact ⟨j + 1, cn, by omega, by go_num, kN, HO2.out, hne, HGG.out⟩
            case measure => simp [intOf]; omega
        · obtain rfl : j = 17 := by omega
          have hlt' : ¬ ((17 : Nat) : Int) < 17 := by omega
          have hst : (numStore (.pointer (some ⟨q2, 0, none⟩)) (.agg #[.int .i64 0, .int .i64 0, .int .i64 0, .int .i64 0, .int .i64 0, .int .i64 0, .int .i64 0, .int .i64 0, .int .i64 0, .int .i64 0, .int .i64 0, .int .i64 0, .int .i64 0, .int .i64 0, .int .i64 0, .int .i64 0, .int .i64 0])).run Try.prog wr = .ok () (wr.setRow q2 NZ) := run_numStore_row wr q2 NZ NZ kR HZ NZ_ok
          have kF := Lib.hid (blk_setRow kR NZ)
          have UF := Lib.hid ((HUW.out.grown hG (fun k e => by have := Option.some.inj e; omega)).grown (grown_row wr q2 NZ) (fun k e => by have := Option.some.inj e; omega))
          clear hO hG kN
          go_wp2_with fail
          exact bodyPost_ret (results_nu rfl _ _ _ _ rfl kF.out HZ.out) rfl ⟨⟨NZ, false, rfl, .inr ⟨rfl, rfl, hS.out⟩⟩, UF.out⟩
end

end Go.Proofs.Ytlpkheoljbdajaa
