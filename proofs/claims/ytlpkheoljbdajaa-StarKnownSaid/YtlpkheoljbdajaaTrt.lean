import Derived.Test.YtlpkheoljbdajaaAp2
/- The contract of truth. -/
namespace Go.Proofs.Ytlpkheoljbdajaa
open Go.RowKit Go.Shelf
attribute [local go_sem] Oper.semAt_some

/-- numbers as they are told: from a place on, so many, of either sign -/
def T.out (neg : Bool) (y : Int → Int) (a : Int) (n : Nat) : List Int := (List.range n).map fun (k : Nat) => if neg then -(y (a + k)) else y (a + k)
theorem T.out_len (neg : Bool) (y : Int → Int) (a : Int) (n : Nat) : (T.out neg y a n).length = n := by unfold T.out; rw [List.length_map, List.length_range]
theorem T.out_succ (neg : Bool) (y : Int → Int) (a : Int) (n : Nat) : T.out neg y a (n + 1) = T.out neg y a n ++ [if neg then -(y (a + n)) else y (a + n)] := by
  unfold T.out
  rw [List.range_succ, List.map_append]
  rfl
theorem Ints.of_row {w : World} {base n : Nat} {v : Value} {xs : List Int} (ho : w.ownsRow base 3 1 v n (T.flat 1 T.encI xs)) (hn : n ≤ 1000000) : ∃ a c, v = .slice a n c ∧ n = xs.length ∧ Ints w (.slice a n n) xs ∧ ∀ g, (Value.slice a n n).ownBlock = some g → base ≤ g := by
  obtain ⟨hl, hh⟩ := ho
  rw [T.flat_int, List.length_map] at hl
  rcases hh with ⟨rfl, rfl⟩ | ⟨g, cap, cur, rfl, hg, hcu, hnc, hcm, hcz, hcc⟩
  · have : xs = [] := List.eq_nil_of_length_eq_zero (by omega)
    subst this
    exact ⟨none, 0, rfl, rfl, Ints.nil w, fun g h => by cases h⟩
  · have hn' : n = xs.length := by omega
    subst hn'
    refine ⟨_, cap, rfl, rfl, Ints.new hcu (Nat.le_refl _) (by omega) fun j hj => ?_, fun g' h => ?_⟩
    · have h1 : cur.toList[j]? = (cur.toList.take (xs.length * 1))[j]? := by rw [List.getElem?_take, if_pos (by omega)]
      rw [← Array.getElem?_toList, h1, hcc, T.flat_int, List.getElem?_map, List.getElem?_eq_getElem hj, List.getD_eq_getElem?_getD, List.getElem?_eq_getElem hj]
      rfl
    · have e : g = g' := by simpa [Value.ownBlock] using h
      omega
theorem Ints.keep {W Z : World} {q base : Nat} {v : Value} {xs : List Int} (h : Ints W v xs) (hn : ∀ k, v.ownBlock = some k → base ≤ k) (hq : q < base) (hg : W.grownBy Z (some q)) : Ints Z v xs := by
  obtain ⟨a, c, rfl, hc, hl, hm⟩ := h.is
  refine ⟨_, _, rfl, hc, hl, fun h0 => ?_⟩
  obtain ⟨g, off, rfl, gl, hx⟩ := hm h0
  have hgq : base ≤ g := hn g rfl
  exact ⟨g, off, rfl, Nat.lt_of_lt_of_le gl hg.size, fun j hj => (by
    have e := hg.block g gl (fun e => by have := Option.some.inj e; omega)
    rw [show Z.cell? ⟨g, off + j, none⟩ = W.cell? ⟨g, off + j, none⟩ by simp only [World.cell?, e]]
    exact hx j hj)⟩
/-- a list that lies in new memory -/
def T.Lay (base : Nat) (w : World) (v : Value) (xs : List Int) : Prop := Ints w v xs ∧ (∀ k, v.ownBlock = some k → base ≤ k) ∧ ∃ a n c, v = .slice a n c
theorem T.Lay.keep {W Z : World} {q base : Nat} {v : Value} {xs : List Int} (h : T.Lay base W v xs) (hq : q < base) (hg : W.grownBy Z (some q)) : T.Lay base Z v xs := ⟨h.1.keep h.2.1 hq hg, h.2⟩
theorem T.Lay.up {W Z : World} {base : Nat} {v : Value} {xs : List Int} (h : T.Lay base W v xs) (u : Up W Z) : T.Lay base Z v xs := ⟨h.1.up u, h.2⟩
section
variable {N : Nat} {bl bh rl rh : Int} {aP aQ aL : Option Addr} {nP cP nQ cQ nL cL : Nat} {o : Nat → Bool}
set_option maxRecDepth 100000 in
set_option maxHeartbeats 4000000 in
theorem truth_up {w : World} {cs : Array Value} {y : Int → Int} (hN : N ≤ 8) (hP : nP ≤ 4) (hQ : nQ ≤ 4) (hO : T.OC cs y) (hb : ∀ i, T.Alive N nP nQ i → -1000000000 ≤ y i ∧ y i ≤ 1000000000) :
    Calls Try.prog 72 #[BkV (N : Int) bl bh rl rh (.slice aP nP cP) (.slice aQ nQ cQ) (.slice aL nL cL) o, .agg cs, AhV] w fun e w' => (∃ vO vE vA, e = .returned (.agg #[vO, vE, vA]) ∧ T.Lay w.heap.size w' vO (T.out false y 1 N) ∧ T.Lay w.heap.size w' vE (T.out true y 9 nP) ∧ T.Lay w.heap.size w' vA (T.out false y 13 nQ)) ∧ Up w w' := by
  have HO := Lib.hid hO
  have HB := Lib.hid hb
  have hsz := Lib.hid hO.size
  have hok := hO.one
  have HZ := Lib.hid NZ_size
  have hmx : Try.prog.follows .mixedOrders = true := by kernel_rfl
  clear hO hb
  go_enter Try.func72, Try.ntmps72
  go_wp2_with fail
  obtain ⟨W0, hW0⟩ : ∃ x, ((((w.alloc (.cells (BkC (N : Int) bl bh rl rh (.slice aP nP cP) (.slice aQ nQ cQ) (.slice aL nL cL) o) 81)).alloc (.cells cs 85)).alloc (.cells #[.func (.func 117) #[] #[], .int .i64 1] 108)).alloc (.cells #[.slice none 0 0, .slice none 0 0, .slice none 0 0] 30)).alloc (.cells #[.slice none 0 0, .slice none 0 0, .slice none 0 0] 128) = x := ⟨_, rfl⟩
  obtain ⟨q0, e0⟩ : ∃ x, w.heap.size = x := ⟨_, rfl⟩
  obtain ⟨q1, e1⟩ : ∃ x, q0 + 1 = x := ⟨_, rfl⟩
  obtain ⟨q2, e2⟩ : ∃ x, q1 + 1 = x := ⟨_, rfl⟩
  obtain ⟨q3, e3⟩ : ∃ x, q2 + 1 = x := ⟨_, rfl⟩
  obtain ⟨q4, e4⟩ : ∃ x, q3 + 1 = x := ⟨_, rfl⟩
  have U0 : Up w W0 := by rw [← hW0]; exact (((((Up.refl w).alloc _).alloc _).alloc _).alloc _).alloc _
  have kB : mblk W0 q0 = some (.cells (BkC (N : Int) bl bh rl rh (.slice aP nP cP) (.slice aQ nQ cQ) (.slice aL nL cL) o) 81 (0, 0)) := by rw [← hW0]; exact blk_keep _ (blk_keep _ (blk_keep _ (blk_keep _ (blk_new _ _ _ e0.symm))))
  have kN : mblk W0 q1 = some (.cells cs 85 (0, 0)) := by rw [← hW0]; exact blk_keep _ (blk_keep _ (blk_keep _ (blk_new _ _ _ (by simp; omega))))
  have kD : mblk W0 q2 = some (.cells #[.func (.func 117) #[] #[], .int .i64 1] 108 (0, 0)) := by rw [← hW0]; exact blk_keep _ (blk_keep _ (blk_new _ _ _ (by simp; omega)))
  have kR : mblk W0 q3 = some (.cells #[.slice none 0 0, .slice none 0 0, .slice none 0 0] 30 (0, 0)) := by rw [← hW0]; exact blk_keep _ (blk_new _ _ _ (by simp; omega))
  have kT : mblk W0 q4 = some (.cells #[.slice none 0 0, .slice none 0 0, .slice none 0 0] 128 (0, 0)) := by rw [← hW0]; exact blk_new _ _ _ (by simp; omega)
  have z0 : W0.heap.size = q4 + 1 := by rw [← hW0]; simp; omega
  try rw [hW0, e0, e1, e2, e3, e4]
  clear hW0
  refine (kinds_any W0).mono ?_
  rintro e W1 ⟨rfl, u1⟩
  replace kT := u1.blk kT
  have z1 : q4 + 1 ≤ W1.heap.size := by have := u1.size; omega
  have UW := Lib.hid (U0.trans u1)
  have HKB := Lib.hid (u1.blk kB)
  have HKN := Lib.hid (u1.blk kN)
  have HKD := Lib.hid (u1.blk kD)
  have HKR := Lib.hid (u1.blk kR)
  clear kB kN kD kR U0 u1
  go_wp2_with fail
  go_loopw [13] (fun iv wr => ∃ (k : Nat) (vO vE vA : Value), k ≤ 3 ∧ iv = .int .i64 k ∧ mblk wr q4 = some (.cells #[vO, vE, vA] 128 (0, 0)) ∧ Hid (T.Lay W1.heap.size wr vE (T.out true y 9 (if 1 ≤ k then nP else 0)) ∧ T.Lay W1.heap.size wr vA (T.out false y 13 (if 2 ≤ k then nQ else 0)) ∧ T.Lay W1.heap.size wr vO (T.out false y 1 (if 3 ≤ k then N else 0))) ∧ W1.grownBy wr (some q4)) (fun iv _ => 3 - (intOf iv).toNat)
  case atStart =>
    have hz : T.Lay W1.heap.size W1 (.slice none 0 0) [] := ⟨Ints.nil W1, fun k h => (by cases h), _, _, _, rfl⟩
    exact ⟨0, _, _, _, by omega, rfl, kT, Lib.hid ⟨hz, hz, hz⟩, up_grown (Up.refl W1) _⟩
  case round =>
    clear kT
    obtain ⟨k, vO, vE, vA, hk, rfl, kT, hL, hG⟩ := hrel
    have kB := grown_blk hG HKB.out (fun e => by have := Option.some.inj e; omega)
    have kN := grown_blk hG HKN.out (fun e => by have := Option.some.inj e; omega)
    have kD := grown_blk hG HKD.out (fun e => by have := Option.some.inj e; omega)
    have kR := grown_blk hG HKR.out (fun e => by have := Option.some.inj e; omega)
    have hcase : k = 0 ∨ k = 1 ∨ k = 2 ∨ k = 3 := by omega
    rcases hcase with rfl | rfl | rfl | rfl
    · have HP1 := Lib.hid (fun w => people_pt q4 w)
      have HP2 := Lib.hid (fun w => people_any (N := (N : Int)) (bl := bl) (bh := bh) (rl := rl) (rh := rh) (aP := aP) (nP := nP) (cP := cP) (aQ := aQ) (nQ := nQ) (cQ := cQ) (aL := aL) (nL := nL) (cL := cL) (o := o) w)
      obtain ⟨W2, hW2⟩ : ∃ x, wr.alloc (.cells #[.int .i64 9, .int .i64 (-1), .func (.func 105) #[] #[], .func (.func 106) #[] #[], .func (.func 107) #[] #[]] 133) = x := ⟨_, rfl⟩
      obtain ⟨q5, e5⟩ : ∃ x, wr.heap.size = x := ⟨_, rfl⟩
      have lq := blk_lt kT
      rw [e5] at lq
      have u2 : Up wr W2 := by rw [← hW2]; exact (Up.refl wr).alloc _
      have kK : mblk W2 q5 = some (.cells #[.int .i64 9, .int .i64 (-1), .func (.func 105) #[] #[], .func (.func 106) #[] #[], .func (.func 107) #[] #[]] 133 (0, 0)) := by rw [← hW2]; exact blk_new _ _ _ e5.symm
      replace kB := u2.blk kB
      have HGu := Lib.hid (grown_trans hG (up_grown u2 (some q4)))
      have HU2 := Lib.hid u2
      go_wp2_with fail
      try rw [hW2, e5]
      refine (HP2.out _).mono ?_
      rintro e W3 ⟨rfl, u3⟩
      replace kK := u3.blk kK
      have HU3 := Lib.hid (HU2.out.trans u3)
      have HKT := Lib.hid (HU3.out.blk kT)
      have HKN3 := Lib.hid (HU3.out.blk kN)
      have HKD3 := Lib.hid (HU3.out.blk kD)
      have HKK := Lib.hid kK
      have HG3 := Lib.hid (grown_trans hG (up_grown HU3.out (some q4)))
      have HL3 := Lib.hid (And.intro (hL.out.1.up HU3.out) (And.intro (hL.out.2.1.up HU3.out) (hL.out.2.2.up HU3.out)))
      have hz3 := (HU3.out).size
      have hz3b := blk_lt kK
      clear u3 HP2 hW2 kB kN kD kR kT u2 kK HGu hG
      go_wp2_with fail
      go_loopw [10, 20] (fun v i wr2 => ∃ j : Nat, j ≤ nP ∧ i = .int .i64 j ∧ Hid (wr2.ownsRow W3.heap.size 3 1 v j (T.flat 1 T.encI (T.out true y 9 j))) ∧ Up W3 wr2) (fun _ i _ => nP - (intOf i).toNat)
      case atStart => exact ⟨0, Nat.zero_le _, rfl, Lib.hid (World.ownsRow_nil _ _ _ _), Up.refl W3⟩
      case round =>
        obtain ⟨j, hj, rfl, hown, V⟩ := hrel
        have kK := V.blk HKK.out
        have kN := V.blk HKN3.out
        have kD := V.blk HKD3.out
        have kT := V.blk HKT.out
        by_cases hlt : j < nP
        · have hlt' : (j : Int) < nP := by omega
          obtain ⟨n1, hn1⟩ : ∃ x, y (9 + (j : Int)) = x := ⟨_, rfl⟩
          have hbb := HB.out (9 + (j : Int)) (by unfold T.Alive; omega)
          obtain ⟨p, hp⟩ : ∃ p : Nat, 9 + j = p := ⟨_, rfl⟩
          have hp1 : ((9 : Int) + (j : Int)) = (p : Int) := by omega
          have v1 := HO.out.at_ p (by omega)
          rw [← hp1, hn1] at v1
          rw [hn1] at hbb
          have hp3 : p < 17 := by omega
          have hp4 : (p : Int) < 17 := by omega
          have ewp : IntKind.i64.wrap (p : Int) = p := IntWalk.i64_in _ (by omega)
          have ew1 : IntKind.i64.wrap n1 = n1 := IntWalk.i64_in _ (by omega)
          have ew2 : IntKind.i64.wrap (-n1) = -n1 := IntWalk.i64_in _ (by omega)
          have hsc := Lib.hid (show T.out true y 9 (j + 1) = T.out true y 9 j ++ [-n1] by rw [T.out_succ, hn1]; rfl)
          clear hn1 hbb
          go_wp2_with fail
          have ewm : IntKind.i64.wrap (-1) = -1 := IntWalk.i64_in _ (by omega)
          have ew0 : IntKind.i64.wrap 1 = 1 := IntWalk.i64_in _ (by omega)
          have ew3 : IntKind.i64.wrap (-1 * n1) = -n1 := by rw [show -1 * n1 = -n1 by omega]; exact ew2
          have cN := (cellB kN p).trans v1
          refine (wpIn_wide (n := 5)).1 ?_
          refine wpIn_nrm ?_
          refine regionG (fun w' => Up W3 w' ∧ w'.cell? ⟨q1, p, none⟩ = some (.int .i64 n1) ∧ mblk w' q5 = some (.cells #[.int .i64 9, .int .i64 (-1), .func (.func 105) #[] #[], .func (.func 106) #[] #[], .func (.func 107) #[] #[]] 133 (0, 0)) ∧ mblk w' q2 = some (.cells #[.func (.func 117) #[] #[], .int .i64 1] 108 (0, 0))) 15 hmx ⟨V.drew, cN, by rw [blk_drew]; exact kK, by rw [blk_drew]; exact kD⟩ (fun hHeld hCl => ?_)
          refine takeG (i := 0) (d := (some 23)) (v := ?v1) rfl rfl (by kernel_rfl) (by kernel_rfl) (by decide) hCl (by kernel_rfl) (by kernel_rfl) (by kernel_rfl) (fun _ _ _ h => h) (by rfl) ?hy1 (fun _ _ _ => trivial) (by assumption) (fun hCl' => ?_)
          case hy1 => ((intro w hSw; (try dsimp only at hSw); (try go_split_ands); go_simp); try with_reducible rfl)
          simp only [Act.put, List.setIfInBounds_toArray, List.set_cons_zero, List.set_cons_succ]
          replace hCl := hCl'; clear hCl'
          refine takeG (i := 1) (d := (some 24)) (v := ?v2) rfl rfl (by kernel_rfl) (by kernel_rfl) (by decide) hCl (by kernel_rfl) (by kernel_rfl) (by kernel_rfl) (fun _ _ _ h => h) (by rfl) ?hy2 (fun _ _ _ => trivial) (by assumption) (fun hCl' => ?_)
          case hy2 => ((intro w hSw; (try dsimp only at hSw); (try go_split_ands); go_simp); try with_reducible rfl)
          simp only [Act.put, List.setIfInBounds_toArray, List.set_cons_zero, List.set_cons_succ]
          replace hCl := hCl'; clear hCl'
          refine takeG (i := 3) (d := (some 26)) (v := ?v3) rfl rfl (by kernel_rfl) (by kernel_rfl) (by decide) hCl (by kernel_rfl) (by kernel_rfl) (by kernel_rfl) (fun _ _ _ h => h) (by rfl) ?hy3 (fun _ _ _ => trivial) (by assumption) (fun hCl' => ?_)
          case hy3 => ((intro w hSw; (try dsimp only at hSw); (try go_split_ands); go_simp); try with_reducible rfl)
          simp only [Act.put, List.setIfInBounds_toArray, List.set_cons_zero, List.set_cons_succ]
          replace hCl := hCl'; clear hCl'
          refine takeG (i := 6) (d := (some 29)) (v := ?v4) rfl rfl (by kernel_rfl) (by kernel_rfl) (by decide) hCl (by kernel_rfl) (by kernel_rfl) (by kernel_rfl) (fun _ _ _ h => h) (by rfl) ?hy4 (fun _ _ _ => trivial) (by assumption) (fun hCl' => ?_)
          case hy4 => ((intro w hSw; (try dsimp only at hSw); (try go_split_ands); go_simp); try with_reducible rfl)
          simp only [Act.put, List.setIfInBounds_toArray, List.set_cons_zero, List.set_cons_succ]
          replace hCl := hCl'; clear hCl'
          refine takeG (i := 8) (d := (some 31)) (v := ?v5) rfl rfl (by kernel_rfl) (by kernel_rfl) (by decide) hCl (by kernel_rfl) (by kernel_rfl) (by kernel_rfl) (fun _ _ _ h => h) (by rfl) ?hy5 (fun _ _ _ => trivial) (by assumption) (fun hCl' => ?_)
          case hy5 => ((intro w hSw; (try dsimp only at hSw); (try go_split_ands); go_simp); try with_reducible rfl)
          simp only [Act.put, List.setIfInBounds_toArray, List.set_cons_zero, List.set_cons_succ]
          replace hCl := hCl'; clear hCl'
          refine takeG (i := 2) (d := (some 25)) (v := ?v6) rfl rfl (by kernel_rfl) (by kernel_rfl) (by decide) hCl (by kernel_rfl) (by kernel_rfl) (by kernel_rfl) (fun _ _ _ h => h) (by rfl) ?hy6 (fun _ _ _ => trivial) (by assumption) (fun hCl' => ?_)
          case hy6 => ((intro w hSw; (try dsimp only at hSw); (try go_split_ands); go_simp); try with_reducible rfl)
          simp only [Act.put, List.setIfInBounds_toArray, List.set_cons_zero, List.set_cons_succ]
          replace hCl := hCl'; clear hCl'
          refine takeG (i := 4) (d := (some 27)) (v := ?v7) rfl rfl (by kernel_rfl) (by kernel_rfl) (by decide) hCl (by kernel_rfl) (by kernel_rfl) (by kernel_rfl) (fun _ _ _ h => h) (by rfl) ?hy7 (fun _ _ _ => trivial) (by assumption) (fun hCl' => ?_)
          case hy7 => ((intro w hSw; (try dsimp only at hSw); (try go_split_ands); go_simp); try with_reducible rfl)
          simp only [Act.put, List.setIfInBounds_toArray, List.set_cons_zero, List.set_cons_succ]
          replace hCl := hCl'; clear hCl'
          refine takeG (i := 7) (d := (some 30)) (v := ?v8) rfl rfl (by kernel_rfl) (by kernel_rfl) (by decide) hCl (by kernel_rfl) (by kernel_rfl) (by kernel_rfl) (fun _ _ _ h => h) (by rfl) ?hy8 (fun _ _ _ => trivial) (by assumption) (fun hCl' => ?_)
          case hy8 => ((intro w hSw; (try dsimp only at hSw); (try go_split_ands); go_simp); try with_reducible rfl)
          simp only [Act.put, List.setIfInBounds_toArray, List.set_cons_zero, List.set_cons_succ]
          replace hCl := hCl'; clear hCl'
          refine takeG (i := 5) (d := (some 28)) (v := ?v9) rfl rfl (by kernel_rfl) (by kernel_rfl) (by decide) hCl (by kernel_rfl) (by kernel_rfl) (by kernel_rfl) (fun _ _ _ h => h) (by rfl) ?hy9 (fun _ _ _ => trivial) (by assumption) (fun hCl' => ?_)
          case hy9 => ((intro w hSw; (try dsimp only at hSw); (try go_split_ands); go_simp); try with_reducible rfl)
          simp only [Act.put, List.setIfInBounds_toArray, List.set_cons_zero, List.set_cons_succ]
          replace hCl := hCl'; clear hCl'
          refine takeG (i := 9) (d := (some 32)) (v := ?v10) rfl rfl (by kernel_rfl) (by kernel_rfl) (by decide) hCl (by kernel_rfl) (by kernel_rfl) (by kernel_rfl) (fun _ _ _ h => h) (by rfl) ?hy10 (fun _ _ _ => trivial) (by assumption) (fun hCl' => ?_)
          case hy10 => ((intro w hSw; (try dsimp only at hSw); (try go_split_ands); go_simp); try with_reducible rfl)
          simp only [Act.put, List.setIfInBounds_toArray, List.set_cons_zero, List.set_cons_succ]
          replace hCl := hCl'; clear hCl'
          refine takeG (i := 10) (d := (some 33)) (v := ?v11) rfl rfl (by kernel_rfl) (by kernel_rfl) (by decide) hCl (by kernel_rfl) (by kernel_rfl) (by kernel_rfl) (fun _ _ _ h => h) (by rfl) ?hy11 (fun _ _ _ => trivial) (by assumption) (fun hCl' => ?_)
          case hy11 => ((intro w hSw; (try dsimp only at hSw); (try go_split_ands); go_simp); try with_reducible rfl)
          simp only [Act.put, List.setIfInBounds_toArray, List.set_cons_zero, List.set_cons_succ]
          replace hCl := hCl'; clear hCl'
          refine takeG (i := 11) (d := (some 34)) (v := ?v12) rfl rfl (by kernel_rfl) (by kernel_rfl) (by decide) hCl (by kernel_rfl) (by kernel_rfl) (by kernel_rfl) (fun _ _ _ h => h) (by rfl) ?hy12 (fun _ _ _ => trivial) (by assumption) (fun hCl' => ?_)
          case hy12 => ((intro w hSw; (try dsimp only at hSw); (try go_split_ands); go_simp); try with_reducible rfl)
          simp only [Act.put, List.setIfInBounds_toArray, List.set_cons_zero, List.set_cons_succ]
          replace hCl := hCl'; clear hCl'
          refine takeG (i := 12) (d := (some 35)) (v := ?v13) rfl rfl (by kernel_rfl) (by kernel_rfl) (by decide) hCl (by kernel_rfl) (by kernel_rfl) (by kernel_rfl) (fun _ _ _ h => h) (by rfl) ?hy13 (fun _ _ _ => trivial) (by assumption) (fun hCl' => ?_)
          case hy13 => ((intro w hSw; (try dsimp only at hSw); (try go_split_ands); go_simp); try with_reducible rfl)
          simp only [Act.put, List.setIfInBounds_toArray, List.set_cons_zero, List.set_cons_succ]
          replace hCl := hCl'; clear hCl'
          refine nextG (i := 13) (by kernel_rfl) rfl (by rfl) hCl (fun K hK => ?_)
          go_simp
          clear hHeld
          have A1 : Up wr (wr.alloc (.cells #[.int .i64 (-n1)] 3)).drew := Up.drew (Up.alloc (Up.refl wr) _)
          have pl : mblk (wr.alloc (.cells #[.int .i64 (-n1)] 3)).drew wr.heap.size = some (.cells #[.int .i64 (-n1)] 3 (0, 0)) := by rw [blk_drew]; exact blk_new _ _ _ rfl
          obtain ⟨q7, hq7⟩ : ∃ q, wr.heap.size = q := ⟨_, rfl⟩
          obtain ⟨X1, hX1⟩ : ∃ X, (wr.alloc (.cells #[.int .i64 (-n1)] 3)).drew = X := ⟨_, rfl⟩
          rw [hX1] at A1 pl
          rw [hq7] at pl
          try rw [hX1]
          try rw [hq7]
          refine hK.out _ _ ⟨V.trans A1, (cellB (A1.blk kN) p).trans v1, A1.blk kK, A1.blk kD⟩ (fun _ hCl => ?_)
          clear hK K hX1 hq7
          try simp only [Act.put, List.setIfInBounds_toArray, List.set_cons_zero, List.set_cons_succ]
          refine nextG (i := 14) (by kernel_rfl) rfl (by rfl) hCl (fun K hK => ?_)
          have R1 := row_up hown.out A1
          have hzz := (V.trans A1).size
          refine T.opIn_app T.elI (.tmp 23) (.tmp 36) rfl (T.one_int _ _ pl) rfl W3.heap.size _ j rfl R1 (by omega) (by simp) hzz ?_
          intro v2 X2 R2 hg2
          replace R2 : X2.ownsRow W3.heap.size 3 1 v2 (j + 1) _ := R2
          have V2 := Up.grown (V.trans A1) hg2 (fun k e => row_base R1 k e)
          refine hK.out _ _ ⟨V2, (cellB (grown_blk hg2 (A1.blk kN) (row_block R1 (by omega))) p).trans v1, grown_blk hg2 (A1.blk kK) (row_block R1 (by omega)), grown_blk hg2 (A1.blk kD) (row_block R1 (by omega))⟩ (fun _ hCl => ?_)
          clear hK K
          try simp only [Act.put, List.setIfInBounds_toArray]
          have HR2 := Lib.hid R2
          clear hg2 pl R1 R2 A1 cN hown kK kN kD kT V
          refine lastG (i := 15) (by kernel_rfl) rfl (by rfl) (by decide) (fun K hK => ?_)
          go_simp
          refine hK.out _ _ ?_
          clear hK K
          refine doneG (by kernel_rfl) ?_ _
          refine S.nrm_intro ?_
          go_wp2
          go_roundw
          case rel => exact ⟨j + 1, by omega, by go_num, Lib.hid (by rw [hsc.out]; exact HR2.out), V2⟩
          case measure => simp [intOf]; omega
        · obtain rfl : nP = j := by omega
          have hlt' : ¬ ((nP : Nat) : Int) < nP := by omega
          obtain ⟨ra, rc, rfl, hrc, hrm⟩ := row_val hown.out
          obtain ⟨ra2, rc2, hv, hn2, hI, hbs⟩ := Ints.of_row hown.out (by omega)
          injection hv with hv1 hv2 hv3
          subst hv1 hv3
          have F2 := Lib.hid (fun w (u : Up wr w) => cellB (u.blk kK))
          have HKT2 := Lib.hid kT
          have HV := Lib.hid V
          have HI := Lib.hid (And.intro hI hbs)
          clear hown hI hbs kK kN kD kT V hn2
          go_wp2_with fail
          refine (wpIn_wide (n := 5)).1 ?_
          refine wpIn_nrm ?_
          refine T.regionQ (fun w' => Up wr w') 10 1 hmx (by kernel_rfl) (by kernel_rfl) ((Up.refl wr).drew) (fun hCl => ?_)
          refine T.qTake (i := 0) (d := (some 39)) (v := ?v15) rfl rfl (by kernel_rfl) (by decide) hCl (by kernel_rfl) (by kernel_rfl) (by kernel_rfl) (by rfl) ?hy15 (fun _ _ _ => trivial) (fun hCl' => ?_)
          case hy15 => (intro w hSw; refine T.qVal ?_ hSw; (have f2 := F2.out w hSw); go_simp; try with_reducible rfl)
          simp only [Act.put, List.setIfInBounds_toArray, List.set_cons_zero, List.set_cons_succ]
          replace hCl := hCl'; clear hCl'
          refine T.qTake (i := 3) (d := (some 42)) (v := ?v16) rfl rfl (by kernel_rfl) (by decide) hCl (by kernel_rfl) (by kernel_rfl) (by kernel_rfl) (by rfl) ?hy16 (fun _ _ _ => trivial) (fun hCl' => ?_)
          case hy16 => (intro w hSw; refine T.qVal ?_ hSw; (have f2 := F2.out w hSw); go_simp; try with_reducible rfl)
          simp only [Act.put, List.setIfInBounds_toArray, List.set_cons_zero, List.set_cons_succ]
          replace hCl := hCl'; clear hCl'
          refine T.qTake (i := 4) (d := (some 43)) (v := ?v17) rfl rfl (by kernel_rfl) (by decide) hCl (by kernel_rfl) (by kernel_rfl) (by kernel_rfl) (by rfl) ?hy17 (fun _ _ _ => trivial) (fun hCl' => ?_)
          case hy17 => (intro w hSw; refine T.qVal ?_ hSw; (have f2 := F2.out w hSw); go_simp; try with_reducible rfl)
          simp only [Act.put, List.setIfInBounds_toArray, List.set_cons_zero, List.set_cons_succ]
          replace hCl := hCl'; clear hCl'
          refine T.qTake (i := 6) (d := (some 45)) (v := ?v18) rfl rfl (by kernel_rfl) (by decide) hCl (by kernel_rfl) (by kernel_rfl) (by kernel_rfl) (by rfl) ?hy18 (fun _ _ _ => trivial) (fun hCl' => ?_)
          case hy18 => (intro w hSw; refine T.qVal ?_ hSw; (have f2 := F2.out w hSw); go_simp; try with_reducible rfl)
          simp only [Act.put, List.setIfInBounds_toArray, List.set_cons_zero, List.set_cons_succ]
          replace hCl := hCl'; clear hCl'
          refine T.qTake (i := 1) (d := (some 40)) (v := ?v19) rfl rfl (by kernel_rfl) (by decide) hCl (by kernel_rfl) (by kernel_rfl) (by kernel_rfl) (by rfl) ?hy19 (fun _ _ _ => trivial) (fun hCl' => ?_)
          case hy19 => (intro w hSw; refine T.qVal ?_ hSw; (have f2 := F2.out w hSw); go_simp; try with_reducible rfl)
          simp only [Act.put, List.setIfInBounds_toArray, List.set_cons_zero, List.set_cons_succ]
          replace hCl := hCl'; clear hCl'
          refine T.qTake (i := 2) (d := (some 41)) (v := (.pointer (some ⟨q4, 1, none⟩))) rfl rfl (by kernel_rfl) (by decide) hCl (by kernel_rfl) (by kernel_rfl) (by kernel_rfl) (by rfl) ?hy20 (fun _ _ _ => trivial) (fun hCl' => ?_)
          case hy20 => (intro w hSw; (have f2 := F2.out w hSw); go_simp; (refine (callsIn_wide.2 (HP1.out w)).mono ?_; rintro e w3 ⟨rfl, rfl⟩; exact ⟨rfl, hSw⟩))
          simp only [Act.put, List.setIfInBounds_toArray, List.set_cons_zero, List.set_cons_succ]
          replace hCl := hCl'; clear hCl'
          refine T.qTake (i := 5) (d := (some 44)) (v := ?v21) rfl rfl (by kernel_rfl) (by decide) hCl (by kernel_rfl) (by kernel_rfl) (by kernel_rfl) (by rfl) ?hy21 (fun _ _ _ => trivial) (fun hCl' => ?_)
          case hy21 => (intro w hSw; refine T.qVal ?_ hSw; (have f2 := F2.out w hSw); go_simp; try with_reducible rfl)
          simp only [Act.put, List.setIfInBounds_toArray, List.set_cons_zero, List.set_cons_succ]
          replace hCl := hCl'; clear hCl'
          refine T.qTake (i := 7) (d := (some 46)) (v := ?v22) rfl rfl (by kernel_rfl) (by decide) hCl (by kernel_rfl) (by kernel_rfl) (by kernel_rfl) (by rfl) ?hy22 (fun _ _ _ => trivial) (fun hCl' => ?_)
          case hy22 => (intro w hSw; refine T.qVal ?_ hSw; (have f2 := F2.out w hSw); go_simp; try with_reducible rfl)
          simp only [Act.put, List.setIfInBounds_toArray, List.set_cons_zero, List.set_cons_succ]
          replace hCl := hCl'; clear hCl'
          refine T.qTake (i := 8) (d := (some 47)) (v := ?v23) rfl rfl (by kernel_rfl) (by decide) hCl (by kernel_rfl) (by kernel_rfl) (by kernel_rfl) (by rfl) ?hy23 (fun _ _ _ => trivial) (fun hCl' => ?_)
          case hy23 => (intro w hSw; refine T.qVal ?_ hSw; (have f2 := F2.out w hSw); go_simp; try with_reducible rfl)
          simp only [Act.put, List.setIfInBounds_toArray, List.set_cons_zero, List.set_cons_succ]
          replace hCl := hCl'; clear hCl'
          refine T.qTake (i := 9) (d := (some 48)) (v := ?v24) rfl rfl (by kernel_rfl) (by decide) hCl (by kernel_rfl) (by kernel_rfl) (by kernel_rfl) (by rfl) ?hy24 (fun _ _ _ => trivial) (fun hCl' => ?_)
          case hy24 => (intro w hSw; refine T.qVal ?_ hSw; (have f2 := F2.out w hSw); go_simp; try with_reducible rfl)
          simp only [Act.put, List.setIfInBounds_toArray, List.set_cons_zero, List.set_cons_succ]
          replace hCl := hCl'; clear hCl'
          refine T.tail_intro (by kernel_rfl) (fun Y hY => ?_)
          have kT2 := hY.blk HKT2.out
          have fT := frozB kT2
          have cT := cellB kT2
          have lT := blk_lt kT2
          refine lastG (i := 10) (by kernel_rfl) rfl (by rfl) (by decide) (fun K hK => ?_)
          go_simp
          refine hK.out _ _ ?_
          clear hK K
          refine doneG (by kernel_rfl) ?_ _
          refine S.nrm_intro ?_
          obtain ⟨Z, hZ⟩ : ∃ z, Y.setCell ⟨q4, 1, none⟩ (.slice ra nP nP) = z := ⟨_, rfl⟩
          have kZ : mblk Z q4 = some (.cells #[vO, (.slice ra nP nP), vA] 128 (0, 0)) := by rw [← hZ]; exact blk_put kT2 1 _
          have gZ : Y.grownBy Z (some q4) := by rw [← hZ]; exact grown_set Y q4 1 _
          try rw [hZ]
          have UY := HV.out.trans hY
          have hW := HG3.out.size
          have b1 : q4 < W1.heap.size := by omega
          have HG4 := Lib.hid (grown_trans HG3.out (grown_trans (up_grown UY (some q4)) gZ))
          have hnew : T.Lay W1.heap.size Z (.slice ra nP nP) (T.out true y 9 nP) := ⟨(HI.out.1.up hY).keep (base := W1.heap.size) (fun k h => Nat.le_trans hW (HI.out.2 k h)) b1 gZ, fun k h => Nat.le_trans hW (HI.out.2 k h), _, _, _, rfl⟩
          have HL4 := Lib.hid (And.intro ((HL3.out.1.up UY).keep b1 gZ) (And.intro ((HL3.out.2.1.up UY).keep b1 gZ) ((HL3.out.2.2.up UY).keep b1 gZ)))
          have HNEW := Lib.hid hnew
          clear hZ gZ UY hnew kT2 fT cT lT HI HL3 hL HKT2 HKT HKN3 HKD3 HKK HV F2 HG3 hY HU3
          go_wp2_with fail
          go_roundw
          case rel => exact ⟨1, _, _, _, by omega, by go_num, kZ, Lib.hid ⟨HNEW.out, HL4.out.2.1, HL4.out.2.2⟩, HG4.out⟩
          case measure => simp [intOf]
    · have HP1 := Lib.hid (fun w => paths_pt q4 w)
      have HP2 := Lib.hid (fun w => paths_any (N := (N : Int)) (bl := bl) (bh := bh) (rl := rl) (rh := rh) (aP := aP) (nP := nP) (cP := cP) (aQ := aQ) (nQ := nQ) (cQ := cQ) (aL := aL) (nL := nL) (cL := cL) (o := o) w)
      obtain ⟨W2, hW2⟩ : ∃ x, wr.alloc (.cells #[.int .i64 13, .int .i64 1, .func (.func 108) #[] #[], .func (.func 109) #[] #[], .func (.func 110) #[] #[]] 133) = x := ⟨_, rfl⟩
      obtain ⟨q5, e5⟩ : ∃ x, wr.heap.size = x := ⟨_, rfl⟩
      have lq := blk_lt kT
      rw [e5] at lq
      have u2 : Up wr W2 := by rw [← hW2]; exact (Up.refl wr).alloc _
      have kK : mblk W2 q5 = some (.cells #[.int .i64 13, .int .i64 1, .func (.func 108) #[] #[], .func (.func 109) #[] #[], .func (.func 110) #[] #[]] 133 (0, 0)) := by rw [← hW2]; exact blk_new _ _ _ e5.symm
      replace kB := u2.blk kB
      have HGu := Lib.hid (grown_trans hG (up_grown u2 (some q4)))
      have HU2 := Lib.hid u2
      go_wp2_with fail
      try rw [hW2, e5]
      refine (HP2.out _).mono ?_
      rintro e W3 ⟨rfl, u3⟩
      replace kK := u3.blk kK
      have HU3 := Lib.hid (HU2.out.trans u3)
      have HKT := Lib.hid (HU3.out.blk kT)
      have HKN3 := Lib.hid (HU3.out.blk kN)
      have HKD3 := Lib.hid (HU3.out.blk kD)
      have HKK := Lib.hid kK
      have HG3 := Lib.hid (grown_trans hG (up_grown HU3.out (some q4)))
      have HL3 := Lib.hid (And.intro (hL.out.1.up HU3.out) (And.intro (hL.out.2.1.up HU3.out) (hL.out.2.2.up HU3.out)))
      have hz3 := (HU3.out).size
      have hz3b := blk_lt kK
      clear u3 HP2 hW2 kB kN kD kR kT u2 kK HGu hG
      go_wp2_with fail
      go_loopw [10, 20] (fun v i wr2 => ∃ j : Nat, j ≤ nQ ∧ i = .int .i64 j ∧ Hid (wr2.ownsRow W3.heap.size 3 1 v j (T.flat 1 T.encI (T.out false y 13 j))) ∧ Up W3 wr2) (fun _ i _ => nQ - (intOf i).toNat)
      case atStart => exact ⟨0, Nat.zero_le _, rfl, Lib.hid (World.ownsRow_nil _ _ _ _), Up.refl W3⟩
      case round =>
        obtain ⟨j, hj, rfl, hown, V⟩ := hrel
        have kK := V.blk HKK.out
        have kN := V.blk HKN3.out
        have kD := V.blk HKD3.out
        have kT := V.blk HKT.out
        by_cases hlt : j < nQ
        · have hlt' : (j : Int) < nQ := by omega
          obtain ⟨n1, hn1⟩ : ∃ x, y (13 + (j : Int)) = x := ⟨_, rfl⟩
          have hbb := HB.out (13 + (j : Int)) (by unfold T.Alive; omega)
          obtain ⟨p, hp⟩ : ∃ p : Nat, 13 + j = p := ⟨_, rfl⟩
          have hp1 : ((13 : Int) + (j : Int)) = (p : Int) := by omega
          have v1 := HO.out.at_ p (by omega)
          rw [← hp1, hn1] at v1
          rw [hn1] at hbb
          have hp3 : p < 17 := by omega
          have hp4 : (p : Int) < 17 := by omega
          have ewp : IntKind.i64.wrap (p : Int) = p := IntWalk.i64_in _ (by omega)
          have ew1 : IntKind.i64.wrap n1 = n1 := IntWalk.i64_in _ (by omega)
          have ew2 : IntKind.i64.wrap (-n1) = -n1 := IntWalk.i64_in _ (by omega)
          have hsc := Lib.hid (show T.out false y 13 (j + 1) = T.out false y 13 j ++ [n1] by rw [T.out_succ, hn1]; rfl)
          clear hn1 hbb
          go_wp2_with fail
          have ewm : IntKind.i64.wrap (-1) = -1 := IntWalk.i64_in _ (by omega)
          have ew0 : IntKind.i64.wrap 1 = 1 := IntWalk.i64_in _ (by omega)
          have ew3 : IntKind.i64.wrap (-1 * n1) = -n1 := by rw [show -1 * n1 = -n1 by omega]; exact ew2
          have cN := (cellB kN p).trans v1
          refine (wpIn_wide (n := 5)).1 ?_
          refine wpIn_nrm ?_
          refine regionG (fun w' => Up W3 w' ∧ w'.cell? ⟨q1, p, none⟩ = some (.int .i64 n1) ∧ mblk w' q5 = some (.cells #[.int .i64 13, .int .i64 1, .func (.func 108) #[] #[], .func (.func 109) #[] #[], .func (.func 110) #[] #[]] 133 (0, 0)) ∧ mblk w' q2 = some (.cells #[.func (.func 117) #[] #[], .int .i64 1] 108 (0, 0))) 15 hmx ⟨V.drew, cN, by rw [blk_drew]; exact kK, by rw [blk_drew]; exact kD⟩ (fun hHeld hCl => ?_)
          refine takeG (i := 0) (d := (some 23)) (v := ?v25) rfl rfl (by kernel_rfl) (by kernel_rfl) (by decide) hCl (by kernel_rfl) (by kernel_rfl) (by kernel_rfl) (fun _ _ _ h => h) (by rfl) ?hy25 (fun _ _ _ => trivial) (by assumption) (fun hCl' => ?_)
          case hy25 => ((intro w hSw; (try dsimp only at hSw); (try go_split_ands); go_simp); try with_reducible rfl)
          simp only [Act.put, List.setIfInBounds_toArray, List.set_cons_zero, List.set_cons_succ]
          replace hCl := hCl'; clear hCl'
          refine takeG (i := 1) (d := (some 24)) (v := ?v26) rfl rfl (by kernel_rfl) (by kernel_rfl) (by decide) hCl (by kernel_rfl) (by kernel_rfl) (by kernel_rfl) (fun _ _ _ h => h) (by rfl) ?hy26 (fun _ _ _ => trivial) (by assumption) (fun hCl' => ?_)
          case hy26 => ((intro w hSw; (try dsimp only at hSw); (try go_split_ands); go_simp); try with_reducible rfl)
          simp only [Act.put, List.setIfInBounds_toArray, List.set_cons_zero, List.set_cons_succ]
          replace hCl := hCl'; clear hCl'
          refine takeG (i := 3) (d := (some 26)) (v := ?v27) rfl rfl (by kernel_rfl) (by kernel_rfl) (by decide) hCl (by kernel_rfl) (by kernel_rfl) (by kernel_rfl) (fun _ _ _ h => h) (by rfl) ?hy27 (fun _ _ _ => trivial) (by assumption) (fun hCl' => ?_)
          case hy27 => ((intro w hSw; (try dsimp only at hSw); (try go_split_ands); go_simp); try with_reducible rfl)
          simp only [Act.put, List.setIfInBounds_toArray, List.set_cons_zero, List.set_cons_succ]
          replace hCl := hCl'; clear hCl'
          refine takeG (i := 6) (d := (some 29)) (v := ?v28) rfl rfl (by kernel_rfl) (by kernel_rfl) (by decide) hCl (by kernel_rfl) (by kernel_rfl) (by kernel_rfl) (fun _ _ _ h => h) (by rfl) ?hy28 (fun _ _ _ => trivial) (by assumption) (fun hCl' => ?_)
          case hy28 => ((intro w hSw; (try dsimp only at hSw); (try go_split_ands); go_simp); try with_reducible rfl)
          simp only [Act.put, List.setIfInBounds_toArray, List.set_cons_zero, List.set_cons_succ]
          replace hCl := hCl'; clear hCl'
          refine takeG (i := 8) (d := (some 31)) (v := ?v29) rfl rfl (by kernel_rfl) (by kernel_rfl) (by decide) hCl (by kernel_rfl) (by kernel_rfl) (by kernel_rfl) (fun _ _ _ h => h) (by rfl) ?hy29 (fun _ _ _ => trivial) (by assumption) (fun hCl' => ?_)
          case hy29 => ((intro w hSw; (try dsimp only at hSw); (try go_split_ands); go_simp); try with_reducible rfl)
          simp only [Act.put, List.setIfInBounds_toArray, List.set_cons_zero, List.set_cons_succ]
          replace hCl := hCl'; clear hCl'
          refine takeG (i := 2) (d := (some 25)) (v := ?v30) rfl rfl (by kernel_rfl) (by kernel_rfl) (by decide) hCl (by kernel_rfl) (by kernel_rfl) (by kernel_rfl) (fun _ _ _ h => h) (by rfl) ?hy30 (fun _ _ _ => trivial) (by assumption) (fun hCl' => ?_)
          case hy30 => ((intro w hSw; (try dsimp only at hSw); (try go_split_ands); go_simp); try with_reducible rfl)
          simp only [Act.put, List.setIfInBounds_toArray, List.set_cons_zero, List.set_cons_succ]
          replace hCl := hCl'; clear hCl'
          refine takeG (i := 4) (d := (some 27)) (v := ?v31) rfl rfl (by kernel_rfl) (by kernel_rfl) (by decide) hCl (by kernel_rfl) (by kernel_rfl) (by kernel_rfl) (fun _ _ _ h => h) (by rfl) ?hy31 (fun _ _ _ => trivial) (by assumption) (fun hCl' => ?_)
          case hy31 => ((intro w hSw; (try dsimp only at hSw); (try go_split_ands); go_simp); try with_reducible rfl)
          simp only [Act.put, List.setIfInBounds_toArray, List.set_cons_zero, List.set_cons_succ]
          replace hCl := hCl'; clear hCl'
          refine takeG (i := 7) (d := (some 30)) (v := ?v32) rfl rfl (by kernel_rfl) (by kernel_rfl) (by decide) hCl (by kernel_rfl) (by kernel_rfl) (by kernel_rfl) (fun _ _ _ h => h) (by rfl) ?hy32 (fun _ _ _ => trivial) (by assumption) (fun hCl' => ?_)
          case hy32 => ((intro w hSw; (try dsimp only at hSw); (try go_split_ands); go_simp); try with_reducible rfl)
          simp only [Act.put, List.setIfInBounds_toArray, List.set_cons_zero, List.set_cons_succ]
          replace hCl := hCl'; clear hCl'
          refine takeG (i := 5) (d := (some 28)) (v := ?v33) rfl rfl (by kernel_rfl) (by kernel_rfl) (by decide) hCl (by kernel_rfl) (by kernel_rfl) (by kernel_rfl) (fun _ _ _ h => h) (by rfl) ?hy33 (fun _ _ _ => trivial) (by assumption) (fun hCl' => ?_)
          case hy33 => ((intro w hSw; (try dsimp only at hSw); (try go_split_ands); go_simp); try with_reducible rfl)
          simp only [Act.put, List.setIfInBounds_toArray, List.set_cons_zero, List.set_cons_succ]
          replace hCl := hCl'; clear hCl'
          refine takeG (i := 9) (d := (some 32)) (v := ?v34) rfl rfl (by kernel_rfl) (by kernel_rfl) (by decide) hCl (by kernel_rfl) (by kernel_rfl) (by kernel_rfl) (fun _ _ _ h => h) (by rfl) ?hy34 (fun _ _ _ => trivial) (by assumption) (fun hCl' => ?_)
          case hy34 => ((intro w hSw; (try dsimp only at hSw); (try go_split_ands); go_simp); try with_reducible rfl)
          simp only [Act.put, List.setIfInBounds_toArray, List.set_cons_zero, List.set_cons_succ]
          replace hCl := hCl'; clear hCl'
          refine takeG (i := 10) (d := (some 33)) (v := ?v35) rfl rfl (by kernel_rfl) (by kernel_rfl) (by decide) hCl (by kernel_rfl) (by kernel_rfl) (by kernel_rfl) (fun _ _ _ h => h) (by rfl) ?hy35 (fun _ _ _ => trivial) (by assumption) (fun hCl' => ?_)
          case hy35 => ((intro w hSw; (try dsimp only at hSw); (try go_split_ands); go_simp); try with_reducible rfl)
          simp only [Act.put, List.setIfInBounds_toArray, List.set_cons_zero, List.set_cons_succ]
          replace hCl := hCl'; clear hCl'
          refine takeG (i := 11) (d := (some 34)) (v := ?v36) rfl rfl (by kernel_rfl) (by kernel_rfl) (by decide) hCl (by kernel_rfl) (by kernel_rfl) (by kernel_rfl) (fun _ _ _ h => h) (by rfl) ?hy36 (fun _ _ _ => trivial) (by assumption) (fun hCl' => ?_)
          case hy36 => ((intro w hSw; (try dsimp only at hSw); (try go_split_ands); go_simp); try with_reducible rfl)
          simp only [Act.put, List.setIfInBounds_toArray, List.set_cons_zero, List.set_cons_succ]
          replace hCl := hCl'; clear hCl'
          refine takeG (i := 12) (d := (some 35)) (v := ?v37) rfl rfl (by kernel_rfl) (by kernel_rfl) (by decide) hCl (by kernel_rfl) (by kernel_rfl) (by kernel_rfl) (fun _ _ _ h => h) (by rfl) ?hy37 (fun _ _ _ => trivial) (by assumption) (fun hCl' => ?_)
          case hy37 => ((intro w hSw; (try dsimp only at hSw); (try go_split_ands); go_simp); try with_reducible rfl)
          simp only [Act.put, List.setIfInBounds_toArray, List.set_cons_zero, List.set_cons_succ]
          replace hCl := hCl'; clear hCl'
          refine nextG (i := 13) (by kernel_rfl) rfl (by rfl) hCl (fun K hK => ?_)
          go_simp
          clear hHeld
          have A1 : Up wr (wr.alloc (.cells #[.int .i64 (n1)] 3)).drew := Up.drew (Up.alloc (Up.refl wr) _)
          have pl : mblk (wr.alloc (.cells #[.int .i64 (n1)] 3)).drew wr.heap.size = some (.cells #[.int .i64 (n1)] 3 (0, 0)) := by rw [blk_drew]; exact blk_new _ _ _ rfl
          obtain ⟨q7, hq7⟩ : ∃ q, wr.heap.size = q := ⟨_, rfl⟩
          obtain ⟨X1, hX1⟩ : ∃ X, (wr.alloc (.cells #[.int .i64 (n1)] 3)).drew = X := ⟨_, rfl⟩
          rw [hX1] at A1 pl
          rw [hq7] at pl
          try rw [hX1]
          try rw [hq7]
          refine hK.out _ _ ⟨V.trans A1, (cellB (A1.blk kN) p).trans v1, A1.blk kK, A1.blk kD⟩ (fun _ hCl => ?_)
          clear hK K hX1 hq7
          try simp only [Act.put, List.setIfInBounds_toArray, List.set_cons_zero, List.set_cons_succ]
          refine nextG (i := 14) (by kernel_rfl) rfl (by rfl) hCl (fun K hK => ?_)
          have R1 := row_up hown.out A1
          have hzz := (V.trans A1).size
          refine T.opIn_app T.elI (.tmp 23) (.tmp 36) rfl (T.one_int _ _ pl) rfl W3.heap.size _ j rfl R1 (by omega) (by simp) hzz ?_
          intro v2 X2 R2 hg2
          replace R2 : X2.ownsRow W3.heap.size 3 1 v2 (j + 1) _ := R2
          have V2 := Up.grown (V.trans A1) hg2 (fun k e => row_base R1 k e)
          refine hK.out _ _ ⟨V2, (cellB (grown_blk hg2 (A1.blk kN) (row_block R1 (by omega))) p).trans v1, grown_blk hg2 (A1.blk kK) (row_block R1 (by omega)), grown_blk hg2 (A1.blk kD) (row_block R1 (by omega))⟩ (fun _ hCl => ?_)
          clear hK K
          try simp only [Act.put, List.setIfInBounds_toArray]
          have HR2 := Lib.hid R2
          clear hg2 pl R1 R2 A1 cN hown kK kN kD kT V
          refine lastG (i := 15) (by kernel_rfl) rfl (by rfl) (by decide) (fun K hK => ?_)
          go_simp
          refine hK.out _ _ ?_
          clear hK K
          refine doneG (by kernel_rfl) ?_ _
          refine S.nrm_intro ?_
          go_wp2
          go_roundw
          case rel => exact ⟨j + 1, by omega, by go_num, Lib.hid (by rw [hsc.out]; exact HR2.out), V2⟩
          case measure => simp [intOf]; omega
        · obtain rfl : nQ = j := by omega
          have hlt' : ¬ ((nQ : Nat) : Int) < nQ := by omega
          obtain ⟨ra, rc, rfl, hrc, hrm⟩ := row_val hown.out
          obtain ⟨ra2, rc2, hv, hn2, hI, hbs⟩ := Ints.of_row hown.out (by omega)
          injection hv with hv1 hv2 hv3
          subst hv1 hv3
          have F2 := Lib.hid (fun w (u : Up wr w) => cellB (u.blk kK))
          have HKT2 := Lib.hid kT
          have HV := Lib.hid V
          have HI := Lib.hid (And.intro hI hbs)
          clear hown hI hbs kK kN kD kT V hn2
          go_wp2_with fail
          refine (wpIn_wide (n := 5)).1 ?_
          refine wpIn_nrm ?_
          refine T.regionQ (fun w' => Up wr w') 10 1 hmx (by kernel_rfl) (by kernel_rfl) ((Up.refl wr).drew) (fun hCl => ?_)
          refine T.qTake (i := 0) (d := (some 39)) (v := ?v39) rfl rfl (by kernel_rfl) (by decide) hCl (by kernel_rfl) (by kernel_rfl) (by kernel_rfl) (by rfl) ?hy39 (fun _ _ _ => trivial) (fun hCl' => ?_)
          case hy39 => (intro w hSw; refine T.qVal ?_ hSw; (have f2 := F2.out w hSw); go_simp; try with_reducible rfl)
          simp only [Act.put, List.setIfInBounds_toArray, List.set_cons_zero, List.set_cons_succ]
          replace hCl := hCl'; clear hCl'
          refine T.qTake (i := 3) (d := (some 42)) (v := ?v40) rfl rfl (by kernel_rfl) (by decide) hCl (by kernel_rfl) (by kernel_rfl) (by kernel_rfl) (by rfl) ?hy40 (fun _ _ _ => trivial) (fun hCl' => ?_)
          case hy40 => (intro w hSw; refine T.qVal ?_ hSw; (have f2 := F2.out w hSw); go_simp; try with_reducible rfl)
          simp only [Act.put, List.setIfInBounds_toArray, List.set_cons_zero, List.set_cons_succ]
          replace hCl := hCl'; clear hCl'
          refine T.qTake (i := 4) (d := (some 43)) (v := ?v41) rfl rfl (by kernel_rfl) (by decide) hCl (by kernel_rfl) (by kernel_rfl) (by kernel_rfl) (by rfl) ?hy41 (fun _ _ _ => trivial) (fun hCl' => ?_)
          case hy41 => (intro w hSw; refine T.qVal ?_ hSw; (have f2 := F2.out w hSw); go_simp; try with_reducible rfl)
          simp only [Act.put, List.setIfInBounds_toArray, List.set_cons_zero, List.set_cons_succ]
          replace hCl := hCl'; clear hCl'
          refine T.qTake (i := 6) (d := (some 45)) (v := ?v42) rfl rfl (by kernel_rfl) (by decide) hCl (by kernel_rfl) (by kernel_rfl) (by kernel_rfl) (by rfl) ?hy42 (fun _ _ _ => trivial) (fun hCl' => ?_)
          case hy42 => (intro w hSw; refine T.qVal ?_ hSw; (have f2 := F2.out w hSw); go_simp; try with_reducible rfl)
          simp only [Act.put, List.setIfInBounds_toArray, List.set_cons_zero, List.set_cons_succ]
          replace hCl := hCl'; clear hCl'
          refine T.qTake (i := 1) (d := (some 40)) (v := ?v43) rfl rfl (by kernel_rfl) (by decide) hCl (by kernel_rfl) (by kernel_rfl) (by kernel_rfl) (by rfl) ?hy43 (fun _ _ _ => trivial) (fun hCl' => ?_)
          case hy43 => (intro w hSw; refine T.qVal ?_ hSw; (have f2 := F2.out w hSw); go_simp; try with_reducible rfl)
          simp only [Act.put, List.setIfInBounds_toArray, List.set_cons_zero, List.set_cons_succ]
          replace hCl := hCl'; clear hCl'
          refine T.qTake (i := 2) (d := (some 41)) (v := (.pointer (some ⟨q4, 2, none⟩))) rfl rfl (by kernel_rfl) (by decide) hCl (by kernel_rfl) (by kernel_rfl) (by kernel_rfl) (by rfl) ?hy44 (fun _ _ _ => trivial) (fun hCl' => ?_)
          case hy44 => (intro w hSw; (have f2 := F2.out w hSw); go_simp; (refine (callsIn_wide.2 (HP1.out w)).mono ?_; rintro e w3 ⟨rfl, rfl⟩; exact ⟨rfl, hSw⟩))
          simp only [Act.put, List.setIfInBounds_toArray, List.set_cons_zero, List.set_cons_succ]
          replace hCl := hCl'; clear hCl'
          refine T.qTake (i := 5) (d := (some 44)) (v := ?v45) rfl rfl (by kernel_rfl) (by decide) hCl (by kernel_rfl) (by kernel_rfl) (by kernel_rfl) (by rfl) ?hy45 (fun _ _ _ => trivial) (fun hCl' => ?_)
          case hy45 => (intro w hSw; refine T.qVal ?_ hSw; (have f2 := F2.out w hSw); go_simp; try with_reducible rfl)
          simp only [Act.put, List.setIfInBounds_toArray, List.set_cons_zero, List.set_cons_succ]
          replace hCl := hCl'; clear hCl'
          refine T.qTake (i := 7) (d := (some 46)) (v := ?v46) rfl rfl (by kernel_rfl) (by decide) hCl (by kernel_rfl) (by kernel_rfl) (by kernel_rfl) (by rfl) ?hy46 (fun _ _ _ => trivial) (fun hCl' => ?_)
          case hy46 => (intro w hSw; refine T.qVal ?_ hSw; (have f2 := F2.out w hSw); go_simp; try with_reducible rfl)
          simp only [Act.put, List.setIfInBounds_toArray, List.set_cons_zero, List.set_cons_succ]
          replace hCl := hCl'; clear hCl'
          refine T.qTake (i := 8) (d := (some 47)) (v := ?v47) rfl rfl (by kernel_rfl) (by decide) hCl (by kernel_rfl) (by kernel_rfl) (by kernel_rfl) (by rfl) ?hy47 (fun _ _ _ => trivial) (fun hCl' => ?_)
          case hy47 => (intro w hSw; refine T.qVal ?_ hSw; (have f2 := F2.out w hSw); go_simp; try with_reducible rfl)
          simp only [Act.put, List.setIfInBounds_toArray, List.set_cons_zero, List.set_cons_succ]
          replace hCl := hCl'; clear hCl'
          refine T.qTake (i := 9) (d := (some 48)) (v := ?v48) rfl rfl (by kernel_rfl) (by decide) hCl (by kernel_rfl) (by kernel_rfl) (by kernel_rfl) (by rfl) ?hy48 (fun _ _ _ => trivial) (fun hCl' => ?_)
          case hy48 => (intro w hSw; refine T.qVal ?_ hSw; (have f2 := F2.out w hSw); go_simp; try with_reducible rfl)
          simp only [Act.put, List.setIfInBounds_toArray, List.set_cons_zero, List.set_cons_succ]
          replace hCl := hCl'; clear hCl'
          refine T.tail_intro (by kernel_rfl) (fun Y hY => ?_)
          have kT2 := hY.blk HKT2.out
          have fT := frozB kT2
          have cT := cellB kT2
          have lT := blk_lt kT2
          refine lastG (i := 10) (by kernel_rfl) rfl (by rfl) (by decide) (fun K hK => ?_)
          go_simp
          refine hK.out _ _ ?_
          clear hK K
          refine doneG (by kernel_rfl) ?_ _
          refine S.nrm_intro ?_
          obtain ⟨Z, hZ⟩ : ∃ z, Y.setCell ⟨q4, 2, none⟩ (.slice ra nQ nQ) = z := ⟨_, rfl⟩
          have kZ : mblk Z q4 = some (.cells #[vO, vE, (.slice ra nQ nQ)] 128 (0, 0)) := by rw [← hZ]; exact blk_put kT2 2 _
          have gZ : Y.grownBy Z (some q4) := by rw [← hZ]; exact grown_set Y q4 2 _
          try rw [hZ]
          have UY := HV.out.trans hY
          have hW := HG3.out.size
          have b1 : q4 < W1.heap.size := by omega
          have HG4 := Lib.hid (grown_trans HG3.out (grown_trans (up_grown UY (some q4)) gZ))
          have hnew : T.Lay W1.heap.size Z (.slice ra nQ nQ) (T.out false y 13 nQ) := ⟨(HI.out.1.up hY).keep (base := W1.heap.size) (fun k h => Nat.le_trans hW (HI.out.2 k h)) b1 gZ, fun k h => Nat.le_trans hW (HI.out.2 k h), _, _, _, rfl⟩
          have HL4 := Lib.hid (And.intro ((HL3.out.1.up UY).keep b1 gZ) (And.intro ((HL3.out.2.1.up UY).keep b1 gZ) ((HL3.out.2.2.up UY).keep b1 gZ)))
          have HNEW := Lib.hid hnew
          clear hZ gZ UY hnew kT2 fT cT lT HI HL3 hL HKT2 HKT HKN3 HKD3 HKK HV F2 HG3 hY HU3
          go_wp2_with fail
          go_roundw
          case rel => exact ⟨2, _, _, _, by omega, by go_num, kZ, Lib.hid ⟨HL4.out.1, HNEW.out, HL4.out.2.2⟩, HG4.out⟩
          case measure => simp [intOf]
    · have HP1 := Lib.hid (fun w => offsets_pt q4 w)
      have HP2 := Lib.hid (fun w => nights_any (N := (N : Int)) (bl := bl) (bh := bh) (rl := rl) (rh := rh) (aP := aP) (nP := nP) (cP := cP) (aQ := aQ) (nQ := nQ) (cQ := cQ) (aL := aL) (nL := nL) (cL := cL) (o := o) w)
      obtain ⟨W2, hW2⟩ : ∃ x, wr.alloc (.cells #[.int .i64 1, .int .i64 1, .func (.func 111) #[] #[], .func (.func 112) #[] #[], .func (.func 113) #[] #[]] 133) = x := ⟨_, rfl⟩
      obtain ⟨q5, e5⟩ : ∃ x, wr.heap.size = x := ⟨_, rfl⟩
      have lq := blk_lt kT
      rw [e5] at lq
      have u2 : Up wr W2 := by rw [← hW2]; exact (Up.refl wr).alloc _
      have kK : mblk W2 q5 = some (.cells #[.int .i64 1, .int .i64 1, .func (.func 111) #[] #[], .func (.func 112) #[] #[], .func (.func 113) #[] #[]] 133 (0, 0)) := by rw [← hW2]; exact blk_new _ _ _ e5.symm
      replace kB := u2.blk kB
      have HGu := Lib.hid (grown_trans hG (up_grown u2 (some q4)))
      have HU2 := Lib.hid u2
      go_wp2_with fail
      try rw [hW2, e5]
      refine (HP2.out _).mono ?_
      rintro e W3 ⟨rfl, u3⟩
      replace kK := u3.blk kK
      have HU3 := Lib.hid (HU2.out.trans u3)
      have HKT := Lib.hid (HU3.out.blk kT)
      have HKN3 := Lib.hid (HU3.out.blk kN)
      have HKD3 := Lib.hid (HU3.out.blk kD)
      have HKK := Lib.hid kK
      have HG3 := Lib.hid (grown_trans hG (up_grown HU3.out (some q4)))
      have HL3 := Lib.hid (And.intro (hL.out.1.up HU3.out) (And.intro (hL.out.2.1.up HU3.out) (hL.out.2.2.up HU3.out)))
      have hz3 := (HU3.out).size
      have hz3b := blk_lt kK
      clear u3 HP2 hW2 kB kN kD kR kT u2 kK HGu hG
      go_wp2_with fail
      go_loopw [10, 20] (fun v i wr2 => ∃ j : Nat, j ≤ N ∧ i = .int .i64 j ∧ Hid (wr2.ownsRow W3.heap.size 3 1 v j (T.flat 1 T.encI (T.out false y 1 j))) ∧ Up W3 wr2) (fun _ i _ => N - (intOf i).toNat)
      case atStart => exact ⟨0, Nat.zero_le _, rfl, Lib.hid (World.ownsRow_nil _ _ _ _), Up.refl W3⟩
      case round =>
        obtain ⟨j, hj, rfl, hown, V⟩ := hrel
        have kK := V.blk HKK.out
        have kN := V.blk HKN3.out
        have kD := V.blk HKD3.out
        have kT := V.blk HKT.out
        by_cases hlt : j < N
        · have hlt' : (j : Int) < N := by omega
          obtain ⟨n1, hn1⟩ : ∃ x, y (1 + (j : Int)) = x := ⟨_, rfl⟩
          have hbb := HB.out (1 + (j : Int)) (by unfold T.Alive; omega)
          obtain ⟨p, hp⟩ : ∃ p : Nat, 1 + j = p := ⟨_, rfl⟩
          have hp1 : ((1 : Int) + (j : Int)) = (p : Int) := by omega
          have v1 := HO.out.at_ p (by omega)
          rw [← hp1, hn1] at v1
          rw [hn1] at hbb
          have hp3 : p < 17 := by omega
          have hp4 : (p : Int) < 17 := by omega
          have ewp : IntKind.i64.wrap (p : Int) = p := IntWalk.i64_in _ (by omega)
          have ew1 : IntKind.i64.wrap n1 = n1 := IntWalk.i64_in _ (by omega)
          have ew2 : IntKind.i64.wrap (-n1) = -n1 := IntWalk.i64_in _ (by omega)
          have hsc := Lib.hid (show T.out false y 1 (j + 1) = T.out false y 1 j ++ [n1] by rw [T.out_succ, hn1]; rfl)
          clear hn1 hbb
          go_wp2_with fail
          have ewm : IntKind.i64.wrap (-1) = -1 := IntWalk.i64_in _ (by omega)
          have ew0 : IntKind.i64.wrap 1 = 1 := IntWalk.i64_in _ (by omega)
          have ew3 : IntKind.i64.wrap (-1 * n1) = -n1 := by rw [show -1 * n1 = -n1 by omega]; exact ew2
          have cN := (cellB kN p).trans v1
          refine (wpIn_wide (n := 5)).1 ?_
          refine wpIn_nrm ?_
          refine regionG (fun w' => Up W3 w' ∧ w'.cell? ⟨q1, p, none⟩ = some (.int .i64 n1) ∧ mblk w' q5 = some (.cells #[.int .i64 1, .int .i64 1, .func (.func 111) #[] #[], .func (.func 112) #[] #[], .func (.func 113) #[] #[]] 133 (0, 0)) ∧ mblk w' q2 = some (.cells #[.func (.func 117) #[] #[], .int .i64 1] 108 (0, 0))) 15 hmx ⟨V.drew, cN, by rw [blk_drew]; exact kK, by rw [blk_drew]; exact kD⟩ (fun hHeld hCl => ?_)
          refine takeG (i := 0) (d := (some 23)) (v := ?v49) rfl rfl (by kernel_rfl) (by kernel_rfl) (by decide) hCl (by kernel_rfl) (by kernel_rfl) (by kernel_rfl) (fun _ _ _ h => h) (by rfl) ?hy49 (fun _ _ _ => trivial) (by assumption) (fun hCl' => ?_)
          case hy49 => ((intro w hSw; (try dsimp only at hSw); (try go_split_ands); go_simp); try with_reducible rfl)
          simp only [Act.put, List.setIfInBounds_toArray, List.set_cons_zero, List.set_cons_succ]
          replace hCl := hCl'; clear hCl'
          refine takeG (i := 1) (d := (some 24)) (v := ?v50) rfl rfl (by kernel_rfl) (by kernel_rfl) (by decide) hCl (by kernel_rfl) (by kernel_rfl) (by kernel_rfl) (fun _ _ _ h => h) (by rfl) ?hy50 (fun _ _ _ => trivial) (by assumption) (fun hCl' => ?_)
          case hy50 => ((intro w hSw; (try dsimp only at hSw); (try go_split_ands); go_simp); try with_reducible rfl)
          simp only [Act.put, List.setIfInBounds_toArray, List.set_cons_zero, List.set_cons_succ]
          replace hCl := hCl'; clear hCl'
          refine takeG (i := 3) (d := (some 26)) (v := ?v51) rfl rfl (by kernel_rfl) (by kernel_rfl) (by decide) hCl (by kernel_rfl) (by kernel_rfl) (by kernel_rfl) (fun _ _ _ h => h) (by rfl) ?hy51 (fun _ _ _ => trivial) (by assumption) (fun hCl' => ?_)
          case hy51 => ((intro w hSw; (try dsimp only at hSw); (try go_split_ands); go_simp); try with_reducible rfl)
          simp only [Act.put, List.setIfInBounds_toArray, List.set_cons_zero, List.set_cons_succ]
          replace hCl := hCl'; clear hCl'
          refine takeG (i := 6) (d := (some 29)) (v := ?v52) rfl rfl (by kernel_rfl) (by kernel_rfl) (by decide) hCl (by kernel_rfl) (by kernel_rfl) (by kernel_rfl) (fun _ _ _ h => h) (by rfl) ?hy52 (fun _ _ _ => trivial) (by assumption) (fun hCl' => ?_)
          case hy52 => ((intro w hSw; (try dsimp only at hSw); (try go_split_ands); go_simp); try with_reducible rfl)
          simp only [Act.put, List.setIfInBounds_toArray, List.set_cons_zero, List.set_cons_succ]
          replace hCl := hCl'; clear hCl'
          refine takeG (i := 8) (d := (some 31)) (v := ?v53) rfl rfl (by kernel_rfl) (by kernel_rfl) (by decide) hCl (by kernel_rfl) (by kernel_rfl) (by kernel_rfl) (fun _ _ _ h => h) (by rfl) ?hy53 (fun _ _ _ => trivial) (by assumption) (fun hCl' => ?_)
          case hy53 => ((intro w hSw; (try dsimp only at hSw); (try go_split_ands); go_simp); try with_reducible rfl)
          simp only [Act.put, List.setIfInBounds_toArray, List.set_cons_zero, List.set_cons_succ]
          replace hCl := hCl'; clear hCl'
          refine takeG (i := 2) (d := (some 25)) (v := ?v54) rfl rfl (by kernel_rfl) (by kernel_rfl) (by decide) hCl (by kernel_rfl) (by kernel_rfl) (by kernel_rfl) (fun _ _ _ h => h) (by rfl) ?hy54 (fun _ _ _ => trivial) (by assumption) (fun hCl' => ?_)
          case hy54 => ((intro w hSw; (try dsimp only at hSw); (try go_split_ands); go_simp); try with_reducible rfl)
          simp only [Act.put, List.setIfInBounds_toArray, List.set_cons_zero, List.set_cons_succ]
          replace hCl := hCl'; clear hCl'
          refine takeG (i := 4) (d := (some 27)) (v := ?v55) rfl rfl (by kernel_rfl) (by kernel_rfl) (by decide) hCl (by kernel_rfl) (by kernel_rfl) (by kernel_rfl) (fun _ _ _ h => h) (by rfl) ?hy55 (fun _ _ _ => trivial) (by assumption) (fun hCl' => ?_)
          case hy55 => ((intro w hSw; (try dsimp only at hSw); (try go_split_ands); go_simp); try with_reducible rfl)
          simp only [Act.put, List.setIfInBounds_toArray, List.set_cons_zero, List.set_cons_succ]
          replace hCl := hCl'; clear hCl'
          refine takeG (i := 7) (d := (some 30)) (v := ?v56) rfl rfl (by kernel_rfl) (by kernel_rfl) (by decide) hCl (by kernel_rfl) (by kernel_rfl) (by kernel_rfl) (fun _ _ _ h => h) (by rfl) ?hy56 (fun _ _ _ => trivial) (by assumption) (fun hCl' => ?_)
          case hy56 => ((intro w hSw; (try dsimp only at hSw); (try go_split_ands); go_simp); try with_reducible rfl)
          simp only [Act.put, List.setIfInBounds_toArray, List.set_cons_zero, List.set_cons_succ]
          replace hCl := hCl'; clear hCl'
          refine takeG (i := 5) (d := (some 28)) (v := ?v57) rfl rfl (by kernel_rfl) (by kernel_rfl) (by decide) hCl (by kernel_rfl) (by kernel_rfl) (by kernel_rfl) (fun _ _ _ h => h) (by rfl) ?hy57 (fun _ _ _ => trivial) (by assumption) (fun hCl' => ?_)
          case hy57 => ((intro w hSw; (try dsimp only at hSw); (try go_split_ands); go_simp); try with_reducible rfl)
          simp only [Act.put, List.setIfInBounds_toArray, List.set_cons_zero, List.set_cons_succ]
          replace hCl := hCl'; clear hCl'
          refine takeG (i := 9) (d := (some 32)) (v := ?v58) rfl rfl (by kernel_rfl) (by kernel_rfl) (by decide) hCl (by kernel_rfl) (by kernel_rfl) (by kernel_rfl) (fun _ _ _ h => h) (by rfl) ?hy58 (fun _ _ _ => trivial) (by assumption) (fun hCl' => ?_)
          case hy58 => ((intro w hSw; (try dsimp only at hSw); (try go_split_ands); go_simp); try with_reducible rfl)
          simp only [Act.put, List.setIfInBounds_toArray, List.set_cons_zero, List.set_cons_succ]
          replace hCl := hCl'; clear hCl'
          refine takeG (i := 10) (d := (some 33)) (v := ?v59) rfl rfl (by kernel_rfl) (by kernel_rfl) (by decide) hCl (by kernel_rfl) (by kernel_rfl) (by kernel_rfl) (fun _ _ _ h => h) (by rfl) ?hy59 (fun _ _ _ => trivial) (by assumption) (fun hCl' => ?_)
          case hy59 => ((intro w hSw; (try dsimp only at hSw); (try go_split_ands); go_simp); try with_reducible rfl)
          simp only [Act.put, List.setIfInBounds_toArray, List.set_cons_zero, List.set_cons_succ]
          replace hCl := hCl'; clear hCl'
          refine takeG (i := 11) (d := (some 34)) (v := ?v60) rfl rfl (by kernel_rfl) (by kernel_rfl) (by decide) hCl (by kernel_rfl) (by kernel_rfl) (by kernel_rfl) (fun _ _ _ h => h) (by rfl) ?hy60 (fun _ _ _ => trivial) (by assumption) (fun hCl' => ?_)
          case hy60 => ((intro w hSw; (try dsimp only at hSw); (try go_split_ands); go_simp); try with_reducible rfl)
          simp only [Act.put, List.setIfInBounds_toArray, List.set_cons_zero, List.set_cons_succ]
          replace hCl := hCl'; clear hCl'
          refine takeG (i := 12) (d := (some 35)) (v := ?v61) rfl rfl (by kernel_rfl) (by kernel_rfl) (by decide) hCl (by kernel_rfl) (by kernel_rfl) (by kernel_rfl) (fun _ _ _ h => h) (by rfl) ?hy61 (fun _ _ _ => trivial) (by assumption) (fun hCl' => ?_)
          case hy61 => ((intro w hSw; (try dsimp only at hSw); (try go_split_ands); go_simp); try with_reducible rfl)
          simp only [Act.put, List.setIfInBounds_toArray, List.set_cons_zero, List.set_cons_succ]
          replace hCl := hCl'; clear hCl'
          refine nextG (i := 13) (by kernel_rfl) rfl (by rfl) hCl (fun K hK => ?_)
          go_simp
          clear hHeld
          have A1 : Up wr (wr.alloc (.cells #[.int .i64 (n1)] 3)).drew := Up.drew (Up.alloc (Up.refl wr) _)
          have pl : mblk (wr.alloc (.cells #[.int .i64 (n1)] 3)).drew wr.heap.size = some (.cells #[.int .i64 (n1)] 3 (0, 0)) := by rw [blk_drew]; exact blk_new _ _ _ rfl
          obtain ⟨q7, hq7⟩ : ∃ q, wr.heap.size = q := ⟨_, rfl⟩
          obtain ⟨X1, hX1⟩ : ∃ X, (wr.alloc (.cells #[.int .i64 (n1)] 3)).drew = X := ⟨_, rfl⟩
          rw [hX1] at A1 pl
          rw [hq7] at pl
          try rw [hX1]
          try rw [hq7]
          refine hK.out _ _ ⟨V.trans A1, (cellB (A1.blk kN) p).trans v1, A1.blk kK, A1.blk kD⟩ (fun _ hCl => ?_)
          clear hK K hX1 hq7
          try simp only [Act.put, List.setIfInBounds_toArray, List.set_cons_zero, List.set_cons_succ]
          refine nextG (i := 14) (by kernel_rfl) rfl (by rfl) hCl (fun K hK => ?_)
          have R1 := row_up hown.out A1
          have hzz := (V.trans A1).size
          refine T.opIn_app T.elI (.tmp 23) (.tmp 36) rfl (T.one_int _ _ pl) rfl W3.heap.size _ j rfl R1 (by omega) (by simp) hzz ?_
          intro v2 X2 R2 hg2
          replace R2 : X2.ownsRow W3.heap.size 3 1 v2 (j + 1) _ := R2
          have V2 := Up.grown (V.trans A1) hg2 (fun k e => row_base R1 k e)
          refine hK.out _ _ ⟨V2, (cellB (grown_blk hg2 (A1.blk kN) (row_block R1 (by omega))) p).trans v1, grown_blk hg2 (A1.blk kK) (row_block R1 (by omega)), grown_blk hg2 (A1.blk kD) (row_block R1 (by omega))⟩ (fun _ hCl => ?_)
          clear hK K
          try simp only [Act.put, List.setIfInBounds_toArray]
          have HR2 := Lib.hid R2
          clear hg2 pl R1 R2 A1 cN hown kK kN kD kT V
          refine lastG (i := 15) (by kernel_rfl) rfl (by rfl) (by decide) (fun K hK => ?_)
          go_simp
          refine hK.out _ _ ?_
          clear hK K
          refine doneG (by kernel_rfl) ?_ _
          refine S.nrm_intro ?_
          go_wp2
          go_roundw
          case rel => exact ⟨j + 1, by omega, by go_num, Lib.hid (by rw [hsc.out]; exact HR2.out), V2⟩
          case measure => simp [intOf]; omega
        · obtain rfl : N = j := by omega
          have hlt' : ¬ ((N : Nat) : Int) < N := by omega
          obtain ⟨ra, rc, rfl, hrc, hrm⟩ := row_val hown.out
          obtain ⟨ra2, rc2, hv, hn2, hI, hbs⟩ := Ints.of_row hown.out (by omega)
          injection hv with hv1 hv2 hv3
          subst hv1 hv3
          have F2 := Lib.hid (fun w (u : Up wr w) => cellB (u.blk kK))
          have HKT2 := Lib.hid kT
          have HV := Lib.hid V
          have HI := Lib.hid (And.intro hI hbs)
          clear hown hI hbs kK kN kD kT V hn2
          go_wp2_with fail
          refine (wpIn_wide (n := 5)).1 ?_
          refine wpIn_nrm ?_
          refine T.regionQ (fun w' => Up wr w') 10 1 hmx (by kernel_rfl) (by kernel_rfl) ((Up.refl wr).drew) (fun hCl => ?_)
          refine T.qTake (i := 0) (d := (some 39)) (v := ?v63) rfl rfl (by kernel_rfl) (by decide) hCl (by kernel_rfl) (by kernel_rfl) (by kernel_rfl) (by rfl) ?hy63 (fun _ _ _ => trivial) (fun hCl' => ?_)
          case hy63 => (intro w hSw; refine T.qVal ?_ hSw; (have f2 := F2.out w hSw); go_simp; try with_reducible rfl)
          simp only [Act.put, List.setIfInBounds_toArray, List.set_cons_zero, List.set_cons_succ]
          replace hCl := hCl'; clear hCl'
          refine T.qTake (i := 3) (d := (some 42)) (v := ?v64) rfl rfl (by kernel_rfl) (by decide) hCl (by kernel_rfl) (by kernel_rfl) (by kernel_rfl) (by rfl) ?hy64 (fun _ _ _ => trivial) (fun hCl' => ?_)
          case hy64 => (intro w hSw; refine T.qVal ?_ hSw; (have f2 := F2.out w hSw); go_simp; try with_reducible rfl)
          simp only [Act.put, List.setIfInBounds_toArray, List.set_cons_zero, List.set_cons_succ]
          replace hCl := hCl'; clear hCl'
          refine T.qTake (i := 4) (d := (some 43)) (v := ?v65) rfl rfl (by kernel_rfl) (by decide) hCl (by kernel_rfl) (by kernel_rfl) (by kernel_rfl) (by rfl) ?hy65 (fun _ _ _ => trivial) (fun hCl' => ?_)
          case hy65 => (intro w hSw; refine T.qVal ?_ hSw; (have f2 := F2.out w hSw); go_simp; try with_reducible rfl)
          simp only [Act.put, List.setIfInBounds_toArray, List.set_cons_zero, List.set_cons_succ]
          replace hCl := hCl'; clear hCl'
          refine T.qTake (i := 6) (d := (some 45)) (v := ?v66) rfl rfl (by kernel_rfl) (by decide) hCl (by kernel_rfl) (by kernel_rfl) (by kernel_rfl) (by rfl) ?hy66 (fun _ _ _ => trivial) (fun hCl' => ?_)
          case hy66 => (intro w hSw; refine T.qVal ?_ hSw; (have f2 := F2.out w hSw); go_simp; try with_reducible rfl)
          simp only [Act.put, List.setIfInBounds_toArray, List.set_cons_zero, List.set_cons_succ]
          replace hCl := hCl'; clear hCl'
          refine T.qTake (i := 1) (d := (some 40)) (v := ?v67) rfl rfl (by kernel_rfl) (by decide) hCl (by kernel_rfl) (by kernel_rfl) (by kernel_rfl) (by rfl) ?hy67 (fun _ _ _ => trivial) (fun hCl' => ?_)
          case hy67 => (intro w hSw; refine T.qVal ?_ hSw; (have f2 := F2.out w hSw); go_simp; try with_reducible rfl)
          simp only [Act.put, List.setIfInBounds_toArray, List.set_cons_zero, List.set_cons_succ]
          replace hCl := hCl'; clear hCl'
          refine T.qTake (i := 2) (d := (some 41)) (v := (.pointer (some ⟨q4, 0, none⟩))) rfl rfl (by kernel_rfl) (by decide) hCl (by kernel_rfl) (by kernel_rfl) (by kernel_rfl) (by rfl) ?hy68 (fun _ _ _ => trivial) (fun hCl' => ?_)
          case hy68 => (intro w hSw; (have f2 := F2.out w hSw); go_simp; (refine (callsIn_wide.2 (HP1.out w)).mono ?_; rintro e w3 ⟨rfl, rfl⟩; exact ⟨rfl, hSw⟩))
          simp only [Act.put, List.setIfInBounds_toArray, List.set_cons_zero, List.set_cons_succ]
          replace hCl := hCl'; clear hCl'
          refine T.qTake (i := 5) (d := (some 44)) (v := ?v69) rfl rfl (by kernel_rfl) (by decide) hCl (by kernel_rfl) (by kernel_rfl) (by kernel_rfl) (by rfl) ?hy69 (fun _ _ _ => trivial) (fun hCl' => ?_)
          case hy69 => (intro w hSw; refine T.qVal ?_ hSw; (have f2 := F2.out w hSw); go_simp; try with_reducible rfl)
          simp only [Act.put, List.setIfInBounds_toArray, List.set_cons_zero, List.set_cons_succ]
          replace hCl := hCl'; clear hCl'
          refine T.qTake (i := 7) (d := (some 46)) (v := ?v70) rfl rfl (by kernel_rfl) (by decide) hCl (by kernel_rfl) (by kernel_rfl) (by kernel_rfl) (by rfl) ?hy70 (fun _ _ _ => trivial) (fun hCl' => ?_)
          case hy70 => (intro w hSw; refine T.qVal ?_ hSw; (have f2 := F2.out w hSw); go_simp; try with_reducible rfl)
          simp only [Act.put, List.setIfInBounds_toArray, List.set_cons_zero, List.set_cons_succ]
          replace hCl := hCl'; clear hCl'
          refine T.qTake (i := 8) (d := (some 47)) (v := ?v71) rfl rfl (by kernel_rfl) (by decide) hCl (by kernel_rfl) (by kernel_rfl) (by kernel_rfl) (by rfl) ?hy71 (fun _ _ _ => trivial) (fun hCl' => ?_)
          case hy71 => (intro w hSw; refine T.qVal ?_ hSw; (have f2 := F2.out w hSw); go_simp; try with_reducible rfl)
          simp only [Act.put, List.setIfInBounds_toArray, List.set_cons_zero, List.set_cons_succ]
          replace hCl := hCl'; clear hCl'
          refine T.qTake (i := 9) (d := (some 48)) (v := ?v72) rfl rfl (by kernel_rfl) (by decide) hCl (by kernel_rfl) (by kernel_rfl) (by kernel_rfl) (by rfl) ?hy72 (fun _ _ _ => trivial) (fun hCl' => ?_)
          case hy72 => (intro w hSw; refine T.qVal ?_ hSw; (have f2 := F2.out w hSw); go_simp; try with_reducible rfl)
          simp only [Act.put, List.setIfInBounds_toArray, List.set_cons_zero, List.set_cons_succ]
          replace hCl := hCl'; clear hCl'
          refine T.tail_intro (by kernel_rfl) (fun Y hY => ?_)
          have kT2 := hY.blk HKT2.out
          have fT := frozB kT2
          have cT := cellB kT2
          have lT := blk_lt kT2
          refine lastG (i := 10) (by kernel_rfl) rfl (by rfl) (by decide) (fun K hK => ?_)
          go_simp
          refine hK.out _ _ ?_
          clear hK K
          refine doneG (by kernel_rfl) ?_ _
          refine S.nrm_intro ?_
          obtain ⟨Z, hZ⟩ : ∃ z, Y.setCell ⟨q4, 0, none⟩ (.slice ra N N) = z := ⟨_, rfl⟩
          have kZ : mblk Z q4 = some (.cells #[(.slice ra N N), vE, vA] 128 (0, 0)) := by rw [← hZ]; exact blk_put kT2 0 _
          have gZ : Y.grownBy Z (some q4) := by rw [← hZ]; exact grown_set Y q4 0 _
          try rw [hZ]
          have UY := HV.out.trans hY
          have hW := HG3.out.size
          have b1 : q4 < W1.heap.size := by omega
          have HG4 := Lib.hid (grown_trans HG3.out (grown_trans (up_grown UY (some q4)) gZ))
          have hnew : T.Lay W1.heap.size Z (.slice ra N N) (T.out false y 1 N) := ⟨(HI.out.1.up hY).keep (base := W1.heap.size) (fun k h => Nat.le_trans hW (HI.out.2 k h)) b1 gZ, fun k h => Nat.le_trans hW (HI.out.2 k h), _, _, _, rfl⟩
          have HL4 := Lib.hid (And.intro ((HL3.out.1.up UY).keep b1 gZ) (And.intro ((HL3.out.2.1.up UY).keep b1 gZ) ((HL3.out.2.2.up UY).keep b1 gZ)))
          have HNEW := Lib.hid hnew
          clear hZ gZ UY hnew kT2 fT cT lT HI HL3 hL HKT2 HKT HKN3 HKD3 HKK HV F2 HG3 hY HU3
          go_wp2_with fail
          go_roundw
          case rel => exact ⟨3, _, _, _, by omega, by go_num, kZ, Lib.hid ⟨HL4.out.1, HL4.out.2.1, HNEW.out⟩, HG4.out⟩
          case measure => simp [intOf]
    · obtain ⟨l1, l2, l3⟩ := hL.out
      obtain ⟨aE, nE, cE, rfl⟩ := l1.2.2
      obtain ⟨aA, nA, cA, rfl⟩ := l2.2.2
      obtain ⟨aO, nO, cO, rfl⟩ := l3.2.2
      have HLL := Lib.hid (And.intro l1 (And.intro l2 l3))
      have cT := cellB kT
      have cR := cellB kR
      have fR := frozB kR
      have lR := blk_lt kR
      have lT := blk_lt kT
      have UX := Lib.hid (UW.out.grown hG (fun k e => by have := Option.some.inj e; omega))
      have hww := UW.out.size
      clear l1 l2 l3 kB kN kD hL hG
      go_wp2_with fail
      obtain ⟨Z, hZ⟩ : ∃ z, ((wr.setCell ⟨q3, 0, none⟩ (.slice aO nO cO)).setCell ⟨q3, 1, none⟩ (.slice aE nE cE)).setCell ⟨q3, 2, none⟩ (.slice aA nA cA) = z := ⟨_, rfl⟩
      have gZ : wr.grownBy Z (some q3) := by rw [← hZ]; exact grown_trans (grown_trans (grown_set wr q3 0 _) (grown_set _ q3 1 _)) (grown_set _ q3 2 _)
      have cZ : ∀ j, Z.cell? ⟨q3, j, none⟩ = (#[Value.slice aO nO cO, .slice aE nE cE, .slice aA nA cA] : Array Value)[j]? := by rw [← hZ]; exact cellB (blk_put (blk_put (blk_put kR 0 _) 1 _) 2 _)
      try rw [hZ]
      have b3 : q3 < W1.heap.size := by omega
      have fin : ∀ v xs, T.Lay W1.heap.size wr v xs → T.Lay w.heap.size Z v xs := fun v xs h => ⟨h.1.keep h.2.1 b3 gZ, fun k e => Nat.le_trans hww (h.2.1 k e), h.2.2⟩
      exact bodyPost_ret (v := .agg #[.slice aO nO cO, .slice aE nE cE, .slice aA nA cA]) (by simp [results, Try.results72, go_sem, cZ]) rfl ⟨⟨_, _, _, rfl, fin _ _ HLL.out.2.2, fin _ _ HLL.out.1, fin _ _ HLL.out.2.1⟩, UX.out.grown gZ (fun k e => by have := Option.some.inj e; omega)⟩
set_option maxRecDepth 100000 in
set_option maxHeartbeats 4000000 in
theorem truth_dn {w : World} {cs : Array Value} {y : Int → Int} (hN : N ≤ 8) (hP : nP ≤ 4) (hQ : nQ ≤ 4) (hO : T.OC cs y) (hb : ∀ i, T.Alive N nP nQ i → -1000000000 ≤ y i ∧ y i ≤ 1000000000) :
    Calls Try.prog 72 #[BkV (N : Int) bl bh rl rh (.slice aP nP cP) (.slice aQ nQ cQ) (.slice aL nL cL) o, .agg cs, BeV] w fun e w' => (∃ vO vE vA, e = .returned (.agg #[vO, vE, vA]) ∧ T.Lay w.heap.size w' vO (T.out true y 1 N) ∧ T.Lay w.heap.size w' vE (T.out false y 9 nP) ∧ T.Lay w.heap.size w' vA (T.out true y 13 nQ)) ∧ Up w w' := by
  have HO := Lib.hid hO
  have HB := Lib.hid hb
  have hsz := Lib.hid hO.size
  have hok := hO.one
  have HZ := Lib.hid NZ_size
  have hmx : Try.prog.follows .mixedOrders = true := by kernel_rfl
  clear hO hb
  go_enter Try.func72, Try.ntmps72
  go_wp2_with fail
  obtain ⟨W0, hW0⟩ : ∃ x, ((((w.alloc (.cells (BkC (N : Int) bl bh rl rh (.slice aP nP cP) (.slice aQ nQ cQ) (.slice aL nL cL) o) 81)).alloc (.cells cs 85)).alloc (.cells #[.func (.func 118) #[] #[], .int .i64 (-1)] 108)).alloc (.cells #[.slice none 0 0, .slice none 0 0, .slice none 0 0] 30)).alloc (.cells #[.slice none 0 0, .slice none 0 0, .slice none 0 0] 128) = x := ⟨_, rfl⟩
  obtain ⟨q0, e0⟩ : ∃ x, w.heap.size = x := ⟨_, rfl⟩
  obtain ⟨q1, e1⟩ : ∃ x, q0 + 1 = x := ⟨_, rfl⟩
  obtain ⟨q2, e2⟩ : ∃ x, q1 + 1 = x := ⟨_, rfl⟩
  obtain ⟨q3, e3⟩ : ∃ x, q2 + 1 = x := ⟨_, rfl⟩
  obtain ⟨q4, e4⟩ : ∃ x, q3 + 1 = x := ⟨_, rfl⟩
  have U0 : Up w W0 := by rw [← hW0]; exact (((((Up.refl w).alloc _).alloc _).alloc _).alloc _).alloc _
  have kB : mblk W0 q0 = some (.cells (BkC (N : Int) bl bh rl rh (.slice aP nP cP) (.slice aQ nQ cQ) (.slice aL nL cL) o) 81 (0, 0)) := by rw [← hW0]; exact blk_keep _ (blk_keep _ (blk_keep _ (blk_keep _ (blk_new _ _ _ e0.symm))))
  have kN : mblk W0 q1 = some (.cells cs 85 (0, 0)) := by rw [← hW0]; exact blk_keep _ (blk_keep _ (blk_keep _ (blk_new _ _ _ (by simp; omega))))
  have kD : mblk W0 q2 = some (.cells #[.func (.func 118) #[] #[], .int .i64 (-1)] 108 (0, 0)) := by rw [← hW0]; exact blk_keep _ (blk_keep _ (blk_new _ _ _ (by simp; omega)))
  have kR : mblk W0 q3 = some (.cells #[.slice none 0 0, .slice none 0 0, .slice none 0 0] 30 (0, 0)) := by rw [← hW0]; exact blk_keep _ (blk_new _ _ _ (by simp; omega))
  have kT : mblk W0 q4 = some (.cells #[.slice none 0 0, .slice none 0 0, .slice none 0 0] 128 (0, 0)) := by rw [← hW0]; exact blk_new _ _ _ (by simp; omega)
  have z0 : W0.heap.size = q4 + 1 := by rw [← hW0]; simp; omega
  try rw [hW0, e0, e1, e2, e3, e4]
  clear hW0
  refine (kinds_any W0).mono ?_
  rintro e W1 ⟨rfl, u1⟩
  replace kT := u1.blk kT
  have z1 : q4 + 1 ≤ W1.heap.size := by have := u1.size; omega
  have UW := Lib.hid (U0.trans u1)
  have HKB := Lib.hid (u1.blk kB)
  have HKN := Lib.hid (u1.blk kN)
  have HKD := Lib.hid (u1.blk kD)
  have HKR := Lib.hid (u1.blk kR)
  clear kB kN kD kR U0 u1
  go_wp2_with fail
  go_loopw [13] (fun iv wr => ∃ (k : Nat) (vO vE vA : Value), k ≤ 3 ∧ iv = .int .i64 k ∧ mblk wr q4 = some (.cells #[vO, vE, vA] 128 (0, 0)) ∧ Hid (T.Lay W1.heap.size wr vE (T.out false y 9 (if 1 ≤ k then nP else 0)) ∧ T.Lay W1.heap.size wr vA (T.out true y 13 (if 2 ≤ k then nQ else 0)) ∧ T.Lay W1.heap.size wr vO (T.out true y 1 (if 3 ≤ k then N else 0))) ∧ W1.grownBy wr (some q4)) (fun iv _ => 3 - (intOf iv).toNat)
  case atStart =>
    have hz : T.Lay W1.heap.size W1 (.slice none 0 0) [] := ⟨Ints.nil W1, fun k h => (by cases h), _, _, _, rfl⟩
    exact ⟨0, _, _, _, by omega, rfl, kT, Lib.hid ⟨hz, hz, hz⟩, up_grown (Up.refl W1) _⟩
  case round =>
    clear kT
    obtain ⟨k, vO, vE, vA, hk, rfl, kT, hL, hG⟩ := hrel
    have kB := grown_blk hG HKB.out (fun e => by have := Option.some.inj e; omega)
    have kN := grown_blk hG HKN.out (fun e => by have := Option.some.inj e; omega)
    have kD := grown_blk hG HKD.out (fun e => by have := Option.some.inj e; omega)
    have kR := grown_blk hG HKR.out (fun e => by have := Option.some.inj e; omega)
    have hcase : k = 0 ∨ k = 1 ∨ k = 2 ∨ k = 3 := by omega
    rcases hcase with rfl | rfl | rfl | rfl
    · have HP1 := Lib.hid (fun w => people_pt q4 w)
      have HP2 := Lib.hid (fun w => people_any (N := (N : Int)) (bl := bl) (bh := bh) (rl := rl) (rh := rh) (aP := aP) (nP := nP) (cP := cP) (aQ := aQ) (nQ := nQ) (cQ := cQ) (aL := aL) (nL := nL) (cL := cL) (o := o) w)
      obtain ⟨W2, hW2⟩ : ∃ x, wr.alloc (.cells #[.int .i64 9, .int .i64 (-1), .func (.func 105) #[] #[], .func (.func 106) #[] #[], .func (.func 107) #[] #[]] 133) = x := ⟨_, rfl⟩
      obtain ⟨q5, e5⟩ : ∃ x, wr.heap.size = x := ⟨_, rfl⟩
      have lq := blk_lt kT
      rw [e5] at lq
      have u2 : Up wr W2 := by rw [← hW2]; exact (Up.refl wr).alloc _
      have kK : mblk W2 q5 = some (.cells #[.int .i64 9, .int .i64 (-1), .func (.func 105) #[] #[], .func (.func 106) #[] #[], .func (.func 107) #[] #[]] 133 (0, 0)) := by rw [← hW2]; exact blk_new _ _ _ e5.symm
      replace kB := u2.blk kB
      have HGu := Lib.hid (grown_trans hG (up_grown u2 (some q4)))
      have HU2 := Lib.hid u2
      go_wp2_with fail
      try rw [hW2, e5]
      refine (HP2.out _).mono ?_
      rintro e W3 ⟨rfl, u3⟩
      replace kK := u3.blk kK
      have HU3 := Lib.hid (HU2.out.trans u3)
      have HKT := Lib.hid (HU3.out.blk kT)
      have HKN3 := Lib.hid (HU3.out.blk kN)
      have HKD3 := Lib.hid (HU3.out.blk kD)
      have HKK := Lib.hid kK
      have HG3 := Lib.hid (grown_trans hG (up_grown HU3.out (some q4)))
      have HL3 := Lib.hid (And.intro (hL.out.1.up HU3.out) (And.intro (hL.out.2.1.up HU3.out) (hL.out.2.2.up HU3.out)))
      have hz3 := (HU3.out).size
      have hz3b := blk_lt kK
      clear u3 HP2 hW2 kB kN kD kR kT u2 kK HGu hG
      go_wp2_with fail
      go_loopw [10, 20] (fun v i wr2 => ∃ j : Nat, j ≤ nP ∧ i = .int .i64 j ∧ Hid (wr2.ownsRow W3.heap.size 3 1 v j (T.flat 1 T.encI (T.out false y 9 j))) ∧ Up W3 wr2) (fun _ i _ => nP - (intOf i).toNat)
      case atStart => exact ⟨0, Nat.zero_le _, rfl, Lib.hid (World.ownsRow_nil _ _ _ _), Up.refl W3⟩
      case round =>
        obtain ⟨j, hj, rfl, hown, V⟩ := hrel
        have kK := V.blk HKK.out
        have kN := V.blk HKN3.out
        have kD := V.blk HKD3.out
        have kT := V.blk HKT.out
        by_cases hlt : j < nP
        · have hlt' : (j : Int) < nP := by omega
          obtain ⟨n1, hn1⟩ : ∃ x, y (9 + (j : Int)) = x := ⟨_, rfl⟩
          have hbb := HB.out (9 + (j : Int)) (by unfold T.Alive; omega)
          obtain ⟨p, hp⟩ : ∃ p : Nat, 9 + j = p := ⟨_, rfl⟩
          have hp1 : ((9 : Int) + (j : Int)) = (p : Int) := by omega
          have v1 := HO.out.at_ p (by omega)
          rw [← hp1, hn1] at v1
          rw [hn1] at hbb
          have hp3 : p < 17 := by omega
          have hp4 : (p : Int) < 17 := by omega
          have ewp : IntKind.i64.wrap (p : Int) = p := IntWalk.i64_in _ (by omega)
          have ew1 : IntKind.i64.wrap n1 = n1 := IntWalk.i64_in _ (by omega)
          have ew2 : IntKind.i64.wrap (-n1) = -n1 := IntWalk.i64_in _ (by omega)
          have hsc := Lib.hid (show T.out false y 9 (j + 1) = T.out false y 9 j ++ [n1] by rw [T.out_succ, hn1]; rfl)
          clear hn1 hbb
          go_wp2_with fail
          have ewm : IntKind.i64.wrap (-1) = -1 := IntWalk.i64_in _ (by omega)
          have ew0 : IntKind.i64.wrap 1 = 1 := IntWalk.i64_in _ (by omega)
          have ew3 : IntKind.i64.wrap (-1 * n1) = -n1 := by rw [show -1 * n1 = -n1 by omega]; exact ew2
          have cN := (cellB kN p).trans v1
          refine (wpIn_wide (n := 5)).1 ?_
          refine wpIn_nrm ?_
          refine regionG (fun w' => Up W3 w' ∧ w'.cell? ⟨q1, p, none⟩ = some (.int .i64 n1) ∧ mblk w' q5 = some (.cells #[.int .i64 9, .int .i64 (-1), .func (.func 105) #[] #[], .func (.func 106) #[] #[], .func (.func 107) #[] #[]] 133 (0, 0)) ∧ mblk w' q2 = some (.cells #[.func (.func 118) #[] #[], .int .i64 (-1)] 108 (0, 0))) 15 hmx ⟨V.drew, cN, by rw [blk_drew]; exact kK, by rw [blk_drew]; exact kD⟩ (fun hHeld hCl => ?_)
          refine takeG (i := 0) (d := (some 23)) (v := ?v73) rfl rfl (by kernel_rfl) (by kernel_rfl) (by decide) hCl (by kernel_rfl) (by kernel_rfl) (by kernel_rfl) (fun _ _ _ h => h) (by rfl) ?hy73 (fun _ _ _ => trivial) (by assumption) (fun hCl' => ?_)
          case hy73 => ((intro w hSw; (try dsimp only at hSw); (try go_split_ands); go_simp); try with_reducible rfl)
          simp only [Act.put, List.setIfInBounds_toArray, List.set_cons_zero, List.set_cons_succ]
          replace hCl := hCl'; clear hCl'
          refine takeG (i := 1) (d := (some 24)) (v := ?v74) rfl rfl (by kernel_rfl) (by kernel_rfl) (by decide) hCl (by kernel_rfl) (by kernel_rfl) (by kernel_rfl) (fun _ _ _ h => h) (by rfl) ?hy74 (fun _ _ _ => trivial) (by assumption) (fun hCl' => ?_)
          case hy74 => ((intro w hSw; (try dsimp only at hSw); (try go_split_ands); go_simp); try with_reducible rfl)
          simp only [Act.put, List.setIfInBounds_toArray, List.set_cons_zero, List.set_cons_succ]
          replace hCl := hCl'; clear hCl'
          refine takeG (i := 3) (d := (some 26)) (v := ?v75) rfl rfl (by kernel_rfl) (by kernel_rfl) (by decide) hCl (by kernel_rfl) (by kernel_rfl) (by kernel_rfl) (fun _ _ _ h => h) (by rfl) ?hy75 (fun _ _ _ => trivial) (by assumption) (fun hCl' => ?_)
          case hy75 => ((intro w hSw; (try dsimp only at hSw); (try go_split_ands); go_simp); try with_reducible rfl)
          simp only [Act.put, List.setIfInBounds_toArray, List.set_cons_zero, List.set_cons_succ]
          replace hCl := hCl'; clear hCl'
          refine takeG (i := 6) (d := (some 29)) (v := ?v76) rfl rfl (by kernel_rfl) (by kernel_rfl) (by decide) hCl (by kernel_rfl) (by kernel_rfl) (by kernel_rfl) (fun _ _ _ h => h) (by rfl) ?hy76 (fun _ _ _ => trivial) (by assumption) (fun hCl' => ?_)
          case hy76 => ((intro w hSw; (try dsimp only at hSw); (try go_split_ands); go_simp); try with_reducible rfl)
          simp only [Act.put, List.setIfInBounds_toArray, List.set_cons_zero, List.set_cons_succ]
          replace hCl := hCl'; clear hCl'
          refine takeG (i := 8) (d := (some 31)) (v := ?v77) rfl rfl (by kernel_rfl) (by kernel_rfl) (by decide) hCl (by kernel_rfl) (by kernel_rfl) (by kernel_rfl) (fun _ _ _ h => h) (by rfl) ?hy77 (fun _ _ _ => trivial) (by assumption) (fun hCl' => ?_)
          case hy77 => ((intro w hSw; (try dsimp only at hSw); (try go_split_ands); go_simp); try with_reducible rfl)
          simp only [Act.put, List.setIfInBounds_toArray, List.set_cons_zero, List.set_cons_succ]
          replace hCl := hCl'; clear hCl'
          refine takeG (i := 2) (d := (some 25)) (v := ?v78) rfl rfl (by kernel_rfl) (by kernel_rfl) (by decide) hCl (by kernel_rfl) (by kernel_rfl) (by kernel_rfl) (fun _ _ _ h => h) (by rfl) ?hy78 (fun _ _ _ => trivial) (by assumption) (fun hCl' => ?_)
          case hy78 => ((intro w hSw; (try dsimp only at hSw); (try go_split_ands); go_simp); try with_reducible rfl)
          simp only [Act.put, List.setIfInBounds_toArray, List.set_cons_zero, List.set_cons_succ]
          replace hCl := hCl'; clear hCl'
          refine takeG (i := 4) (d := (some 27)) (v := ?v79) rfl rfl (by kernel_rfl) (by kernel_rfl) (by decide) hCl (by kernel_rfl) (by kernel_rfl) (by kernel_rfl) (fun _ _ _ h => h) (by rfl) ?hy79 (fun _ _ _ => trivial) (by assumption) (fun hCl' => ?_)
          case hy79 => ((intro w hSw; (try dsimp only at hSw); (try go_split_ands); go_simp); try with_reducible rfl)
          simp only [Act.put, List.setIfInBounds_toArray, List.set_cons_zero, List.set_cons_succ]
          replace hCl := hCl'; clear hCl'
          refine takeG (i := 7) (d := (some 30)) (v := ?v80) rfl rfl (by kernel_rfl) (by kernel_rfl) (by decide) hCl (by kernel_rfl) (by kernel_rfl) (by kernel_rfl) (fun _ _ _ h => h) (by rfl) ?hy80 (fun _ _ _ => trivial) (by assumption) (fun hCl' => ?_)
          case hy80 => ((intro w hSw; (try dsimp only at hSw); (try go_split_ands); go_simp); try with_reducible rfl)
          simp only [Act.put, List.setIfInBounds_toArray, List.set_cons_zero, List.set_cons_succ]
          replace hCl := hCl'; clear hCl'
          refine takeG (i := 5) (d := (some 28)) (v := ?v81) rfl rfl (by kernel_rfl) (by kernel_rfl) (by decide) hCl (by kernel_rfl) (by kernel_rfl) (by kernel_rfl) (fun _ _ _ h => h) (by rfl) ?hy81 (fun _ _ _ => trivial) (by assumption) (fun hCl' => ?_)
          case hy81 => ((intro w hSw; (try dsimp only at hSw); (try go_split_ands); go_simp); try with_reducible rfl)
          simp only [Act.put, List.setIfInBounds_toArray, List.set_cons_zero, List.set_cons_succ]
          replace hCl := hCl'; clear hCl'
          refine takeG (i := 9) (d := (some 32)) (v := ?v82) rfl rfl (by kernel_rfl) (by kernel_rfl) (by decide) hCl (by kernel_rfl) (by kernel_rfl) (by kernel_rfl) (fun _ _ _ h => h) (by rfl) ?hy82 (fun _ _ _ => trivial) (by assumption) (fun hCl' => ?_)
          case hy82 => ((intro w hSw; (try dsimp only at hSw); (try go_split_ands); go_simp); try with_reducible rfl)
          simp only [Act.put, List.setIfInBounds_toArray, List.set_cons_zero, List.set_cons_succ]
          replace hCl := hCl'; clear hCl'
          refine takeG (i := 10) (d := (some 33)) (v := ?v83) rfl rfl (by kernel_rfl) (by kernel_rfl) (by decide) hCl (by kernel_rfl) (by kernel_rfl) (by kernel_rfl) (fun _ _ _ h => h) (by rfl) ?hy83 (fun _ _ _ => trivial) (by assumption) (fun hCl' => ?_)
          case hy83 => ((intro w hSw; (try dsimp only at hSw); (try go_split_ands); go_simp); try with_reducible rfl)
          simp only [Act.put, List.setIfInBounds_toArray, List.set_cons_zero, List.set_cons_succ]
          replace hCl := hCl'; clear hCl'
          refine takeG (i := 11) (d := (some 34)) (v := ?v84) rfl rfl (by kernel_rfl) (by kernel_rfl) (by decide) hCl (by kernel_rfl) (by kernel_rfl) (by kernel_rfl) (fun _ _ _ h => h) (by rfl) ?hy84 (fun _ _ _ => trivial) (by assumption) (fun hCl' => ?_)
          case hy84 => ((intro w hSw; (try dsimp only at hSw); (try go_split_ands); go_simp); try with_reducible rfl)
          simp only [Act.put, List.setIfInBounds_toArray, List.set_cons_zero, List.set_cons_succ]
          replace hCl := hCl'; clear hCl'
          refine takeG (i := 12) (d := (some 35)) (v := ?v85) rfl rfl (by kernel_rfl) (by kernel_rfl) (by decide) hCl (by kernel_rfl) (by kernel_rfl) (by kernel_rfl) (fun _ _ _ h => h) (by rfl) ?hy85 (fun _ _ _ => trivial) (by assumption) (fun hCl' => ?_)
          case hy85 => ((intro w hSw; (try dsimp only at hSw); (try go_split_ands); go_simp); try with_reducible rfl)
          simp only [Act.put, List.setIfInBounds_toArray, List.set_cons_zero, List.set_cons_succ]
          replace hCl := hCl'; clear hCl'
          refine nextG (i := 13) (by kernel_rfl) rfl (by rfl) hCl (fun K hK => ?_)
          go_simp
          clear hHeld
          have A1 : Up wr (wr.alloc (.cells #[.int .i64 (n1)] 3)).drew := Up.drew (Up.alloc (Up.refl wr) _)
          have pl : mblk (wr.alloc (.cells #[.int .i64 (n1)] 3)).drew wr.heap.size = some (.cells #[.int .i64 (n1)] 3 (0, 0)) := by rw [blk_drew]; exact blk_new _ _ _ rfl
          obtain ⟨q7, hq7⟩ : ∃ q, wr.heap.size = q := ⟨_, rfl⟩
          obtain ⟨X1, hX1⟩ : ∃ X, (wr.alloc (.cells #[.int .i64 (n1)] 3)).drew = X := ⟨_, rfl⟩
          rw [hX1] at A1 pl
          rw [hq7] at pl
          try rw [hX1]
          try rw [hq7]
          refine hK.out _ _ ⟨V.trans A1, (cellB (A1.blk kN) p).trans v1, A1.blk kK, A1.blk kD⟩ (fun _ hCl => ?_)
          clear hK K hX1 hq7
          try simp only [Act.put, List.setIfInBounds_toArray, List.set_cons_zero, List.set_cons_succ]
          refine nextG (i := 14) (by kernel_rfl) rfl (by rfl) hCl (fun K hK => ?_)
          have R1 := row_up hown.out A1
          have hzz := (V.trans A1).size
          refine T.opIn_app T.elI (.tmp 23) (.tmp 36) rfl (T.one_int _ _ pl) rfl W3.heap.size _ j rfl R1 (by omega) (by simp) hzz ?_
          intro v2 X2 R2 hg2
          replace R2 : X2.ownsRow W3.heap.size 3 1 v2 (j + 1) _ := R2
          have V2 := Up.grown (V.trans A1) hg2 (fun k e => row_base R1 k e)
          refine hK.out _ _ ⟨V2, (cellB (grown_blk hg2 (A1.blk kN) (row_block R1 (by omega))) p).trans v1, grown_blk hg2 (A1.blk kK) (row_block R1 (by omega)), grown_blk hg2 (A1.blk kD) (row_block R1 (by omega))⟩ (fun _ hCl => ?_)
          clear hK K
          try simp only [Act.put, List.setIfInBounds_toArray]
          have HR2 := Lib.hid R2
          clear hg2 pl R1 R2 A1 cN hown kK kN kD kT V
          refine lastG (i := 15) (by kernel_rfl) rfl (by rfl) (by decide) (fun K hK => ?_)
          go_simp
          refine hK.out _ _ ?_
          clear hK K
          refine doneG (by kernel_rfl) ?_ _
          refine S.nrm_intro ?_
          go_wp2
          go_roundw
          case rel => exact ⟨j + 1, by omega, by go_num, Lib.hid (by rw [hsc.out]; exact HR2.out), V2⟩
          case measure => simp [intOf]; omega
        · obtain rfl : nP = j := by omega
          have hlt' : ¬ ((nP : Nat) : Int) < nP := by omega
          obtain ⟨ra, rc, rfl, hrc, hrm⟩ := row_val hown.out
          obtain ⟨ra2, rc2, hv, hn2, hI, hbs⟩ := Ints.of_row hown.out (by omega)
          injection hv with hv1 hv2 hv3
          subst hv1 hv3
          have F2 := Lib.hid (fun w (u : Up wr w) => cellB (u.blk kK))
          have HKT2 := Lib.hid kT
          have HV := Lib.hid V
          have HI := Lib.hid (And.intro hI hbs)
          clear hown hI hbs kK kN kD kT V hn2
          go_wp2_with fail
          refine (wpIn_wide (n := 5)).1 ?_
          refine wpIn_nrm ?_
          refine T.regionQ (fun w' => Up wr w') 10 1 hmx (by kernel_rfl) (by kernel_rfl) ((Up.refl wr).drew) (fun hCl => ?_)
          refine T.qTake (i := 0) (d := (some 39)) (v := ?v87) rfl rfl (by kernel_rfl) (by decide) hCl (by kernel_rfl) (by kernel_rfl) (by kernel_rfl) (by rfl) ?hy87 (fun _ _ _ => trivial) (fun hCl' => ?_)
          case hy87 => (intro w hSw; refine T.qVal ?_ hSw; (have f2 := F2.out w hSw); go_simp; try with_reducible rfl)
          simp only [Act.put, List.setIfInBounds_toArray, List.set_cons_zero, List.set_cons_succ]
          replace hCl := hCl'; clear hCl'
          refine T.qTake (i := 3) (d := (some 42)) (v := ?v88) rfl rfl (by kernel_rfl) (by decide) hCl (by kernel_rfl) (by kernel_rfl) (by kernel_rfl) (by rfl) ?hy88 (fun _ _ _ => trivial) (fun hCl' => ?_)
          case hy88 => (intro w hSw; refine T.qVal ?_ hSw; (have f2 := F2.out w hSw); go_simp; try with_reducible rfl)
          simp only [Act.put, List.setIfInBounds_toArray, List.set_cons_zero, List.set_cons_succ]
          replace hCl := hCl'; clear hCl'
          refine T.qTake (i := 4) (d := (some 43)) (v := ?v89) rfl rfl (by kernel_rfl) (by decide) hCl (by kernel_rfl) (by kernel_rfl) (by kernel_rfl) (by rfl) ?hy89 (fun _ _ _ => trivial) (fun hCl' => ?_)
          case hy89 => (intro w hSw; refine T.qVal ?_ hSw; (have f2 := F2.out w hSw); go_simp; try with_reducible rfl)
          simp only [Act.put, List.setIfInBounds_toArray, List.set_cons_zero, List.set_cons_succ]
          replace hCl := hCl'; clear hCl'
          refine T.qTake (i := 6) (d := (some 45)) (v := ?v90) rfl rfl (by kernel_rfl) (by decide) hCl (by kernel_rfl) (by kernel_rfl) (by kernel_rfl) (by rfl) ?hy90 (fun _ _ _ => trivial) (fun hCl' => ?_)
          case hy90 => (intro w hSw; refine T.qVal ?_ hSw; (have f2 := F2.out w hSw); go_simp; try with_reducible rfl)
          simp only [Act.put, List.setIfInBounds_toArray, List.set_cons_zero, List.set_cons_succ]
          replace hCl := hCl'; clear hCl'
          refine T.qTake (i := 1) (d := (some 40)) (v := ?v91) rfl rfl (by kernel_rfl) (by decide) hCl (by kernel_rfl) (by kernel_rfl) (by kernel_rfl) (by rfl) ?hy91 (fun _ _ _ => trivial) (fun hCl' => ?_)
          case hy91 => (intro w hSw; refine T.qVal ?_ hSw; (have f2 := F2.out w hSw); go_simp; try with_reducible rfl)
          simp only [Act.put, List.setIfInBounds_toArray, List.set_cons_zero, List.set_cons_succ]
          replace hCl := hCl'; clear hCl'
          refine T.qTake (i := 2) (d := (some 41)) (v := (.pointer (some ⟨q4, 1, none⟩))) rfl rfl (by kernel_rfl) (by decide) hCl (by kernel_rfl) (by kernel_rfl) (by kernel_rfl) (by rfl) ?hy92 (fun _ _ _ => trivial) (fun hCl' => ?_)
          case hy92 => (intro w hSw; (have f2 := F2.out w hSw); go_simp; (refine (callsIn_wide.2 (HP1.out w)).mono ?_; rintro e w3 ⟨rfl, rfl⟩; exact ⟨rfl, hSw⟩))
          simp only [Act.put, List.setIfInBounds_toArray, List.set_cons_zero, List.set_cons_succ]
          replace hCl := hCl'; clear hCl'
          refine T.qTake (i := 5) (d := (some 44)) (v := ?v93) rfl rfl (by kernel_rfl) (by decide) hCl (by kernel_rfl) (by kernel_rfl) (by kernel_rfl) (by rfl) ?hy93 (fun _ _ _ => trivial) (fun hCl' => ?_)
          case hy93 => (intro w hSw; refine T.qVal ?_ hSw; (have f2 := F2.out w hSw); go_simp; try with_reducible rfl)
          simp only [Act.put, List.setIfInBounds_toArray, List.set_cons_zero, List.set_cons_succ]
          replace hCl := hCl'; clear hCl'
          refine T.qTake (i := 7) (d := (some 46)) (v := ?v94) rfl rfl (by kernel_rfl) (by decide) hCl (by kernel_rfl) (by kernel_rfl) (by kernel_rfl) (by rfl) ?hy94 (fun _ _ _ => trivial) (fun hCl' => ?_)
          case hy94 => (intro w hSw; refine T.qVal ?_ hSw; (have f2 := F2.out w hSw); go_simp; try with_reducible rfl)
          simp only [Act.put, List.setIfInBounds_toArray, List.set_cons_zero, List.set_cons_succ]
          replace hCl := hCl'; clear hCl'
          refine T.qTake (i := 8) (d := (some 47)) (v := ?v95) rfl rfl (by kernel_rfl) (by decide) hCl (by kernel_rfl) (by kernel_rfl) (by kernel_rfl) (by rfl) ?hy95 (fun _ _ _ => trivial) (fun hCl' => ?_)
          case hy95 => (intro w hSw; refine T.qVal ?_ hSw; (have f2 := F2.out w hSw); go_simp; try with_reducible rfl)
          simp only [Act.put, List.setIfInBounds_toArray, List.set_cons_zero, List.set_cons_succ]
          replace hCl := hCl'; clear hCl'
          refine T.qTake (i := 9) (d := (some 48)) (v := ?v96) rfl rfl (by kernel_rfl) (by decide) hCl (by kernel_rfl) (by kernel_rfl) (by kernel_rfl) (by rfl) ?hy96 (fun _ _ _ => trivial) (fun hCl' => ?_)
          case hy96 => (intro w hSw; refine T.qVal ?_ hSw; (have f2 := F2.out w hSw); go_simp; try with_reducible rfl)
          simp only [Act.put, List.setIfInBounds_toArray, List.set_cons_zero, List.set_cons_succ]
          replace hCl := hCl'; clear hCl'
          refine T.tail_intro (by kernel_rfl) (fun Y hY => ?_)
          have kT2 := hY.blk HKT2.out
          have fT := frozB kT2
          have cT := cellB kT2
          have lT := blk_lt kT2
          refine lastG (i := 10) (by kernel_rfl) rfl (by rfl) (by decide) (fun K hK => ?_)
          go_simp
          refine hK.out _ _ ?_
          clear hK K
          refine doneG (by kernel_rfl) ?_ _
          refine S.nrm_intro ?_
          obtain ⟨Z, hZ⟩ : ∃ z, Y.setCell ⟨q4, 1, none⟩ (.slice ra nP nP) = z := ⟨_, rfl⟩
          have kZ : mblk Z q4 = some (.cells #[vO, (.slice ra nP nP), vA] 128 (0, 0)) := by rw [← hZ]; exact blk_put kT2 1 _
          have gZ : Y.grownBy Z (some q4) := by rw [← hZ]; exact grown_set Y q4 1 _
          try rw [hZ]
          have UY := HV.out.trans hY
          have hW := HG3.out.size
          have b1 : q4 < W1.heap.size := by omega
          have HG4 := Lib.hid (grown_trans HG3.out (grown_trans (up_grown UY (some q4)) gZ))
          have hnew : T.Lay W1.heap.size Z (.slice ra nP nP) (T.out false y 9 nP) := ⟨(HI.out.1.up hY).keep (base := W1.heap.size) (fun k h => Nat.le_trans hW (HI.out.2 k h)) b1 gZ, fun k h => Nat.le_trans hW (HI.out.2 k h), _, _, _, rfl⟩
          have HL4 := Lib.hid (And.intro ((HL3.out.1.up UY).keep b1 gZ) (And.intro ((HL3.out.2.1.up UY).keep b1 gZ) ((HL3.out.2.2.up UY).keep b1 gZ)))
          have HNEW := Lib.hid hnew
          clear hZ gZ UY hnew kT2 fT cT lT HI HL3 hL HKT2 HKT HKN3 HKD3 HKK HV F2 HG3 hY HU3
          go_wp2_with fail
          go_roundw
          case rel => exact ⟨1, _, _, _, by omega, by go_num, kZ, Lib.hid ⟨HNEW.out, HL4.out.2.1, HL4.out.2.2⟩, HG4.out⟩
          case measure => simp [intOf]
    · have HP1 := Lib.hid (fun w => paths_pt q4 w)
      have HP2 := Lib.hid (fun w => paths_any (N := (N : Int)) (bl := bl) (bh := bh) (rl := rl) (rh := rh) (aP := aP) (nP := nP) (cP := cP) (aQ := aQ) (nQ := nQ) (cQ := cQ) (aL := aL) (nL := nL) (cL := cL) (o := o) w)
      obtain ⟨W2, hW2⟩ : ∃ x, wr.alloc (.cells #[.int .i64 13, .int .i64 1, .func (.func 108) #[] #[], .func (.func 109) #[] #[], .func (.func 110) #[] #[]] 133) = x := ⟨_, rfl⟩
      obtain ⟨q5, e5⟩ : ∃ x, wr.heap.size = x := ⟨_, rfl⟩
      have lq := blk_lt kT
      rw [e5] at lq
      have u2 : Up wr W2 := by rw [← hW2]; exact (Up.refl wr).alloc _
      have kK : mblk W2 q5 = some (.cells #[.int .i64 13, .int .i64 1, .func (.func 108) #[] #[], .func (.func 109) #[] #[], .func (.func 110) #[] #[]] 133 (0, 0)) := by rw [← hW2]; exact blk_new _ _ _ e5.symm
      replace kB := u2.blk kB
      have HGu := Lib.hid (grown_trans hG (up_grown u2 (some q4)))
      have HU2 := Lib.hid u2
      go_wp2_with fail
      try rw [hW2, e5]
      refine (HP2.out _).mono ?_
      rintro e W3 ⟨rfl, u3⟩
      replace kK := u3.blk kK
      have HU3 := Lib.hid (HU2.out.trans u3)
      have HKT := Lib.hid (HU3.out.blk kT)
      have HKN3 := Lib.hid (HU3.out.blk kN)
      have HKD3 := Lib.hid (HU3.out.blk kD)
      have HKK := Lib.hid kK
      have HG3 := Lib.hid (grown_trans hG (up_grown HU3.out (some q4)))
      have HL3 := Lib.hid (And.intro (hL.out.1.up HU3.out) (And.intro (hL.out.2.1.up HU3.out) (hL.out.2.2.up HU3.out)))
      have hz3 := (HU3.out).size
      have hz3b := blk_lt kK
      clear u3 HP2 hW2 kB kN kD kR kT u2 kK HGu hG
      go_wp2_with fail
      go_loopw [10, 20] (fun v i wr2 => ∃ j : Nat, j ≤ nQ ∧ i = .int .i64 j ∧ Hid (wr2.ownsRow W3.heap.size 3 1 v j (T.flat 1 T.encI (T.out true y 13 j))) ∧ Up W3 wr2) (fun _ i _ => nQ - (intOf i).toNat)
      case atStart => exact ⟨0, Nat.zero_le _, rfl, Lib.hid (World.ownsRow_nil _ _ _ _), Up.refl W3⟩
      case round =>
        obtain ⟨j, hj, rfl, hown, V⟩ := hrel
        have kK := V.blk HKK.out
        have kN := V.blk HKN3.out
        have kD := V.blk HKD3.out
        have kT := V.blk HKT.out
        by_cases hlt : j < nQ
        · have hlt' : (j : Int) < nQ := by omega
          obtain ⟨n1, hn1⟩ : ∃ x, y (13 + (j : Int)) = x := ⟨_, rfl⟩
          have hbb := HB.out (13 + (j : Int)) (by unfold T.Alive; omega)
          obtain ⟨p, hp⟩ : ∃ p : Nat, 13 + j = p := ⟨_, rfl⟩
          have hp1 : ((13 : Int) + (j : Int)) = (p : Int) := by omega
          have v1 := HO.out.at_ p (by omega)
          rw [← hp1, hn1] at v1
          rw [hn1] at hbb
          have hp3 : p < 17 := by omega
          have hp4 : (p : Int) < 17 := by omega
          have ewp : IntKind.i64.wrap (p : Int) = p := IntWalk.i64_in _ (by omega)
          have ew1 : IntKind.i64.wrap n1 = n1 := IntWalk.i64_in _ (by omega)
          have ew2 : IntKind.i64.wrap (-n1) = -n1 := IntWalk.i64_in _ (by omega)
          have hsc := Lib.hid (show T.out true y 13 (j + 1) = T.out true y 13 j ++ [-n1] by rw [T.out_succ, hn1]; rfl)
          clear hn1 hbb
          go_wp2_with fail
          have ewm : IntKind.i64.wrap (-1) = -1 := IntWalk.i64_in _ (by omega)
          have ew0 : IntKind.i64.wrap 1 = 1 := IntWalk.i64_in _ (by omega)
          have ew3 : IntKind.i64.wrap (-1 * n1) = -n1 := by rw [show -1 * n1 = -n1 by omega]; exact ew2
          have cN := (cellB kN p).trans v1
          refine (wpIn_wide (n := 5)).1 ?_
          refine wpIn_nrm ?_
          refine regionG (fun w' => Up W3 w' ∧ w'.cell? ⟨q1, p, none⟩ = some (.int .i64 n1) ∧ mblk w' q5 = some (.cells #[.int .i64 13, .int .i64 1, .func (.func 108) #[] #[], .func (.func 109) #[] #[], .func (.func 110) #[] #[]] 133 (0, 0)) ∧ mblk w' q2 = some (.cells #[.func (.func 118) #[] #[], .int .i64 (-1)] 108 (0, 0))) 15 hmx ⟨V.drew, cN, by rw [blk_drew]; exact kK, by rw [blk_drew]; exact kD⟩ (fun hHeld hCl => ?_)
          refine takeG (i := 0) (d := (some 23)) (v := ?v97) rfl rfl (by kernel_rfl) (by kernel_rfl) (by decide) hCl (by kernel_rfl) (by kernel_rfl) (by kernel_rfl) (fun _ _ _ h => h) (by rfl) ?hy97 (fun _ _ _ => trivial) (by assumption) (fun hCl' => ?_)
          case hy97 => ((intro w hSw; (try dsimp only at hSw); (try go_split_ands); go_simp); try with_reducible rfl)
          simp only [Act.put, List.setIfInBounds_toArray, List.set_cons_zero, List.set_cons_succ]
          replace hCl := hCl'; clear hCl'
          refine takeG (i := 1) (d := (some 24)) (v := ?v98) rfl rfl (by kernel_rfl) (by kernel_rfl) (by decide) hCl (by kernel_rfl) (by kernel_rfl) (by kernel_rfl) (fun _ _ _ h => h) (by rfl) ?hy98 (fun _ _ _ => trivial) (by assumption) (fun hCl' => ?_)
          case hy98 => ((intro w hSw; (try dsimp only at hSw); (try go_split_ands); go_simp); try with_reducible rfl)
          simp only [Act.put, List.setIfInBounds_toArray, List.set_cons_zero, List.set_cons_succ]
          replace hCl := hCl'; clear hCl'
          refine takeG (i := 3) (d := (some 26)) (v := ?v99) rfl rfl (by kernel_rfl) (by kernel_rfl) (by decide) hCl (by kernel_rfl) (by kernel_rfl) (by kernel_rfl) (fun _ _ _ h => h) (by rfl) ?hy99 (fun _ _ _ => trivial) (by assumption) (fun hCl' => ?_)
          case hy99 => ((intro w hSw; (try dsimp only at hSw); (try go_split_ands); go_simp); try with_reducible rfl)
          simp only [Act.put, List.setIfInBounds_toArray, List.set_cons_zero, List.set_cons_succ]
          replace hCl := hCl'; clear hCl'
          refine takeG (i := 6) (d := (some 29)) (v := ?v100) rfl rfl (by kernel_rfl) (by kernel_rfl) (by decide) hCl (by kernel_rfl) (by kernel_rfl) (by kernel_rfl) (fun _ _ _ h => h) (by rfl) ?hy100 (fun _ _ _ => trivial) (by assumption) (fun hCl' => ?_)
          case hy100 => ((intro w hSw; (try dsimp only at hSw); (try go_split_ands); go_simp); try with_reducible rfl)
          simp only [Act.put, List.setIfInBounds_toArray, List.set_cons_zero, List.set_cons_succ]
          replace hCl := hCl'; clear hCl'
          refine takeG (i := 8) (d := (some 31)) (v := ?v101) rfl rfl (by kernel_rfl) (by kernel_rfl) (by decide) hCl (by kernel_rfl) (by kernel_rfl) (by kernel_rfl) (fun _ _ _ h => h) (by rfl) ?hy101 (fun _ _ _ => trivial) (by assumption) (fun hCl' => ?_)
          case hy101 => ((intro w hSw; (try dsimp only at hSw); (try go_split_ands); go_simp); try with_reducible rfl)
          simp only [Act.put, List.setIfInBounds_toArray, List.set_cons_zero, List.set_cons_succ]
          replace hCl := hCl'; clear hCl'
          refine takeG (i := 2) (d := (some 25)) (v := ?v102) rfl rfl (by kernel_rfl) (by kernel_rfl) (by decide) hCl (by kernel_rfl) (by kernel_rfl) (by kernel_rfl) (fun _ _ _ h => h) (by rfl) ?hy102 (fun _ _ _ => trivial) (by assumption) (fun hCl' => ?_)
          case hy102 => ((intro w hSw; (try dsimp only at hSw); (try go_split_ands); go_simp); try with_reducible rfl)
          simp only [Act.put, List.setIfInBounds_toArray, List.set_cons_zero, List.set_cons_succ]
          replace hCl := hCl'; clear hCl'
          refine takeG (i := 4) (d := (some 27)) (v := ?v103) rfl rfl (by kernel_rfl) (by kernel_rfl) (by decide) hCl (by kernel_rfl) (by kernel_rfl) (by kernel_rfl) (fun _ _ _ h => h) (by rfl) ?hy103 (fun _ _ _ => trivial) (by assumption) (fun hCl' => ?_)
          case hy103 => ((intro w hSw; (try dsimp only at hSw); (try go_split_ands); go_simp); try with_reducible rfl)
          simp only [Act.put, List.setIfInBounds_toArray, List.set_cons_zero, List.set_cons_succ]
          replace hCl := hCl'; clear hCl'
          refine takeG (i := 7) (d := (some 30)) (v := ?v104) rfl rfl (by kernel_rfl) (by kernel_rfl) (by decide) hCl (by kernel_rfl) (by kernel_rfl) (by kernel_rfl) (fun _ _ _ h => h) (by rfl) ?hy104 (fun _ _ _ => trivial) (by assumption) (fun hCl' => ?_)
          case hy104 => ((intro w hSw; (try dsimp only at hSw); (try go_split_ands); go_simp); try with_reducible rfl)
          simp only [Act.put, List.setIfInBounds_toArray, List.set_cons_zero, List.set_cons_succ]
          replace hCl := hCl'; clear hCl'
          refine takeG (i := 5) (d := (some 28)) (v := ?v105) rfl rfl (by kernel_rfl) (by kernel_rfl) (by decide) hCl (by kernel_rfl) (by kernel_rfl) (by kernel_rfl) (fun _ _ _ h => h) (by rfl) ?hy105 (fun _ _ _ => trivial) (by assumption) (fun hCl' => ?_)
          case hy105 => ((intro w hSw; (try dsimp only at hSw); (try go_split_ands); go_simp); try with_reducible rfl)
          simp only [Act.put, List.setIfInBounds_toArray, List.set_cons_zero, List.set_cons_succ]
          replace hCl := hCl'; clear hCl'
          refine takeG (i := 9) (d := (some 32)) (v := ?v106) rfl rfl (by kernel_rfl) (by kernel_rfl) (by decide) hCl (by kernel_rfl) (by kernel_rfl) (by kernel_rfl) (fun _ _ _ h => h) (by rfl) ?hy106 (fun _ _ _ => trivial) (by assumption) (fun hCl' => ?_)
          case hy106 => ((intro w hSw; (try dsimp only at hSw); (try go_split_ands); go_simp); try with_reducible rfl)
          simp only [Act.put, List.setIfInBounds_toArray, List.set_cons_zero, List.set_cons_succ]
          replace hCl := hCl'; clear hCl'
          refine takeG (i := 10) (d := (some 33)) (v := ?v107) rfl rfl (by kernel_rfl) (by kernel_rfl) (by decide) hCl (by kernel_rfl) (by kernel_rfl) (by kernel_rfl) (fun _ _ _ h => h) (by rfl) ?hy107 (fun _ _ _ => trivial) (by assumption) (fun hCl' => ?_)
          case hy107 => ((intro w hSw; (try dsimp only at hSw); (try go_split_ands); go_simp); try with_reducible rfl)
          simp only [Act.put, List.setIfInBounds_toArray, List.set_cons_zero, List.set_cons_succ]
          replace hCl := hCl'; clear hCl'
          refine takeG (i := 11) (d := (some 34)) (v := ?v108) rfl rfl (by kernel_rfl) (by kernel_rfl) (by decide) hCl (by kernel_rfl) (by kernel_rfl) (by kernel_rfl) (fun _ _ _ h => h) (by rfl) ?hy108 (fun _ _ _ => trivial) (by assumption) (fun hCl' => ?_)
          case hy108 => ((intro w hSw; (try dsimp only at hSw); (try go_split_ands); go_simp); try with_reducible rfl)
          simp only [Act.put, List.setIfInBounds_toArray, List.set_cons_zero, List.set_cons_succ]
          replace hCl := hCl'; clear hCl'
          refine takeG (i := 12) (d := (some 35)) (v := ?v109) rfl rfl (by kernel_rfl) (by kernel_rfl) (by decide) hCl (by kernel_rfl) (by kernel_rfl) (by kernel_rfl) (fun _ _ _ h => h) (by rfl) ?hy109 (fun _ _ _ => trivial) (by assumption) (fun hCl' => ?_)
          case hy109 => ((intro w hSw; (try dsimp only at hSw); (try go_split_ands); go_simp); try with_reducible rfl)
          simp only [Act.put, List.setIfInBounds_toArray, List.set_cons_zero, List.set_cons_succ]
          replace hCl := hCl'; clear hCl'
          refine nextG (i := 13) (by kernel_rfl) rfl (by rfl) hCl (fun K hK => ?_)
          go_simp
          clear hHeld
          have A1 : Up wr (wr.alloc (.cells #[.int .i64 (-n1)] 3)).drew := Up.drew (Up.alloc (Up.refl wr) _)
          have pl : mblk (wr.alloc (.cells #[.int .i64 (-n1)] 3)).drew wr.heap.size = some (.cells #[.int .i64 (-n1)] 3 (0, 0)) := by rw [blk_drew]; exact blk_new _ _ _ rfl
          obtain ⟨q7, hq7⟩ : ∃ q, wr.heap.size = q := ⟨_, rfl⟩
          obtain ⟨X1, hX1⟩ : ∃ X, (wr.alloc (.cells #[.int .i64 (-n1)] 3)).drew = X := ⟨_, rfl⟩
          rw [hX1] at A1 pl
          rw [hq7] at pl
          try rw [hX1]
          try rw [hq7]
          refine hK.out _ _ ⟨V.trans A1, (cellB (A1.blk kN) p).trans v1, A1.blk kK, A1.blk kD⟩ (fun _ hCl => ?_)
          clear hK K hX1 hq7
          try simp only [Act.put, List.setIfInBounds_toArray, List.set_cons_zero, List.set_cons_succ]
          refine nextG (i := 14) (by kernel_rfl) rfl (by rfl) hCl (fun K hK => ?_)
          have R1 := row_up hown.out A1
          have hzz := (V.trans A1).size
          refine T.opIn_app T.elI (.tmp 23) (.tmp 36) rfl (T.one_int _ _ pl) rfl W3.heap.size _ j rfl R1 (by omega) (by simp) hzz ?_
          intro v2 X2 R2 hg2
          replace R2 : X2.ownsRow W3.heap.size 3 1 v2 (j + 1) _ := R2
          have V2 := Up.grown (V.trans A1) hg2 (fun k e => row_base R1 k e)
          refine hK.out _ _ ⟨V2, (cellB (grown_blk hg2 (A1.blk kN) (row_block R1 (by omega))) p).trans v1, grown_blk hg2 (A1.blk kK) (row_block R1 (by omega)), grown_blk hg2 (A1.blk kD) (row_block R1 (by omega))⟩ (fun _ hCl => ?_)
          clear hK K
          try simp only [Act.put, List.setIfInBounds_toArray]
          have HR2 := Lib.hid R2
          clear hg2 pl R1 R2 A1 cN hown kK kN kD kT V
          refine lastG (i := 15) (by kernel_rfl) rfl (by rfl) (by decide) (fun K hK => ?_)
          go_simp
          refine hK.out _ _ ?_
          clear hK K
          refine doneG (by kernel_rfl) ?_ _
          refine S.nrm_intro ?_
          go_wp2
          go_roundw
          case rel => exact ⟨j + 1, by omega, by go_num, Lib.hid (by rw [hsc.out]; exact HR2.out), V2⟩
          case measure => simp [intOf]; omega
        · obtain rfl : nQ = j := by omega
          have hlt' : ¬ ((nQ : Nat) : Int) < nQ := by omega
          obtain ⟨ra, rc, rfl, hrc, hrm⟩ := row_val hown.out
          obtain ⟨ra2, rc2, hv, hn2, hI, hbs⟩ := Ints.of_row hown.out (by omega)
          injection hv with hv1 hv2 hv3
          subst hv1 hv3
          have F2 := Lib.hid (fun w (u : Up wr w) => cellB (u.blk kK))
          have HKT2 := Lib.hid kT
          have HV := Lib.hid V
          have HI := Lib.hid (And.intro hI hbs)
          clear hown hI hbs kK kN kD kT V hn2
          go_wp2_with fail
          refine (wpIn_wide (n := 5)).1 ?_
          refine wpIn_nrm ?_
          refine T.regionQ (fun w' => Up wr w') 10 1 hmx (by kernel_rfl) (by kernel_rfl) ((Up.refl wr).drew) (fun hCl => ?_)
          refine T.qTake (i := 0) (d := (some 39)) (v := ?v111) rfl rfl (by kernel_rfl) (by decide) hCl (by kernel_rfl) (by kernel_rfl) (by kernel_rfl) (by rfl) ?hy111 (fun _ _ _ => trivial) (fun hCl' => ?_)
          case hy111 => (intro w hSw; refine T.qVal ?_ hSw; (have f2 := F2.out w hSw); go_simp; try with_reducible rfl)
          simp only [Act.put, List.setIfInBounds_toArray, List.set_cons_zero, List.set_cons_succ]
          replace hCl := hCl'; clear hCl'
          refine T.qTake (i := 3) (d := (some 42)) (v := ?v112) rfl rfl (by kernel_rfl) (by decide) hCl (by kernel_rfl) (by kernel_rfl) (by kernel_rfl) (by rfl) ?hy112 (fun _ _ _ => trivial) (fun hCl' => ?_)
          case hy112 => (intro w hSw; refine T.qVal ?_ hSw; (have f2 := F2.out w hSw); go_simp; try with_reducible rfl)
          simp only [Act.put, List.setIfInBounds_toArray, List.set_cons_zero, List.set_cons_succ]
          replace hCl := hCl'; clear hCl'
          refine T.qTake (i := 4) (d := (some 43)) (v := ?v113) rfl rfl (by kernel_rfl) (by decide) hCl (by kernel_rfl) (by kernel_rfl) (by kernel_rfl) (by rfl) ?hy113 (fun _ _ _ => trivial) (fun hCl' => ?_)
          case hy113 => (intro w hSw; refine T.qVal ?_ hSw; (have f2 := F2.out w hSw); go_simp; try with_reducible rfl)
          simp only [Act.put, List.setIfInBounds_toArray, List.set_cons_zero, List.set_cons_succ]
          replace hCl := hCl'; clear hCl'
          refine T.qTake (i := 6) (d := (some 45)) (v := ?v114) rfl rfl (by kernel_rfl) (by decide) hCl (by kernel_rfl) (by kernel_rfl) (by kernel_rfl) (by rfl) ?hy114 (fun _ _ _ => trivial) (fun hCl' => ?_)
          case hy114 => (intro w hSw; refine T.qVal ?_ hSw; (have f2 := F2.out w hSw); go_simp; try with_reducible rfl)
          simp only [Act.put, List.setIfInBounds_toArray, List.set_cons_zero, List.set_cons_succ]
          replace hCl := hCl'; clear hCl'
          refine T.qTake (i := 1) (d := (some 40)) (v := ?v115) rfl rfl (by kernel_rfl) (by decide) hCl (by kernel_rfl) (by kernel_rfl) (by kernel_rfl) (by rfl) ?hy115 (fun _ _ _ => trivial) (fun hCl' => ?_)
          case hy115 => (intro w hSw; refine T.qVal ?_ hSw; (have f2 := F2.out w hSw); go_simp; try with_reducible rfl)
          simp only [Act.put, List.setIfInBounds_toArray, List.set_cons_zero, List.set_cons_succ]
          replace hCl := hCl'; clear hCl'
          refine T.qTake (i := 2) (d := (some 41)) (v := (.pointer (some ⟨q4, 2, none⟩))) rfl rfl (by kernel_rfl) (by decide) hCl (by kernel_rfl) (by kernel_rfl) (by kernel_rfl) (by rfl) ?hy116 (fun _ _ _ => trivial) (fun hCl' => ?_)
          case hy116 => (intro w hSw; (have f2 := F2.out w hSw); go_simp; (refine (callsIn_wide.2 (HP1.out w)).mono ?_; rintro e w3 ⟨rfl, rfl⟩; exact ⟨rfl, hSw⟩))
          simp only [Act.put, List.setIfInBounds_toArray, List.set_cons_zero, List.set_cons_succ]
          replace hCl := hCl'; clear hCl'
          refine T.qTake (i := 5) (d := (some 44)) (v := ?v117) rfl rfl (by kernel_rfl) (by decide) hCl (by kernel_rfl) (by kernel_rfl) (by kernel_rfl) (by rfl) ?hy117 (fun _ _ _ => trivial) (fun hCl' => ?_)
          case hy117 => (intro w hSw; refine T.qVal ?_ hSw; (have f2 := F2.out w hSw); go_simp; try with_reducible rfl)
          simp only [Act.put, List.setIfInBounds_toArray, List.set_cons_zero, List.set_cons_succ]
          replace hCl := hCl'; clear hCl'
          refine T.qTake (i := 7) (d := (some 46)) (v := ?v118) rfl rfl (by kernel_rfl) (by decide) hCl (by kernel_rfl) (by kernel_rfl) (by kernel_rfl) (by rfl) ?hy118 (fun _ _ _ => trivial) (fun hCl' => ?_)
          case hy118 => (intro w hSw; refine T.qVal ?_ hSw; (have f2 := F2.out w hSw); go_simp; try with_reducible rfl)
          simp only [Act.put, List.setIfInBounds_toArray, List.set_cons_zero, List.set_cons_succ]
          replace hCl := hCl'; clear hCl'
          refine T.qTake (i := 8) (d := (some 47)) (v := ?v119) rfl rfl (by kernel_rfl) (by decide) hCl (by kernel_rfl) (by kernel_rfl) (by kernel_rfl) (by rfl) ?hy119 (fun _ _ _ => trivial) (fun hCl' => ?_)
          case hy119 => (intro w hSw; refine T.qVal ?_ hSw; (have f2 := F2.out w hSw); go_simp; try with_reducible rfl)
          simp only [Act.put, List.setIfInBounds_toArray, List.set_cons_zero, List.set_cons_succ]
          replace hCl := hCl'; clear hCl'
          refine T.qTake (i := 9) (d := (some 48)) (v := ?v120) rfl rfl (by kernel_rfl) (by decide) hCl (by kernel_rfl) (by kernel_rfl) (by kernel_rfl) (by rfl) ?hy120 (fun _ _ _ => trivial) (fun hCl' => ?_)
          case hy120 => (intro w hSw; refine T.qVal ?_ hSw; (have f2 := F2.out w hSw); go_simp; try with_reducible rfl)
          simp only [Act.put, List.setIfInBounds_toArray, List.set_cons_zero, List.set_cons_succ]
          replace hCl := hCl'; clear hCl'
          refine T.tail_intro (by kernel_rfl) (fun Y hY => ?_)
          have kT2 := hY.blk HKT2.out
          have fT := frozB kT2
          have cT := cellB kT2
          have lT := blk_lt kT2
          refine lastG (i := 10) (by kernel_rfl) rfl (by rfl) (by decide) (fun K hK => ?_)
          go_simp
          refine hK.out _ _ ?_
          clear hK K
          refine doneG (by kernel_rfl) ?_ _
          refine S.nrm_intro ?_
          obtain ⟨Z, hZ⟩ : ∃ z, Y.setCell ⟨q4, 2, none⟩ (.slice ra nQ nQ) = z := ⟨_, rfl⟩
          have kZ : mblk Z q4 = some (.cells #[vO, vE, (.slice ra nQ nQ)] 128 (0, 0)) := by rw [← hZ]; exact blk_put kT2 2 _
          have gZ : Y.grownBy Z (some q4) := by rw [← hZ]; exact grown_set Y q4 2 _
          try rw [hZ]
          have UY := HV.out.trans hY
          have hW := HG3.out.size
          have b1 : q4 < W1.heap.size := by omega
          have HG4 := Lib.hid (grown_trans HG3.out (grown_trans (up_grown UY (some q4)) gZ))
          have hnew : T.Lay W1.heap.size Z (.slice ra nQ nQ) (T.out true y 13 nQ) := ⟨(HI.out.1.up hY).keep (base := W1.heap.size) (fun k h => Nat.le_trans hW (HI.out.2 k h)) b1 gZ, fun k h => Nat.le_trans hW (HI.out.2 k h), _, _, _, rfl⟩
          have HL4 := Lib.hid (And.intro ((HL3.out.1.up UY).keep b1 gZ) (And.intro ((HL3.out.2.1.up UY).keep b1 gZ) ((HL3.out.2.2.up UY).keep b1 gZ)))
          have HNEW := Lib.hid hnew
          clear hZ gZ UY hnew kT2 fT cT lT HI HL3 hL HKT2 HKT HKN3 HKD3 HKK HV F2 HG3 hY HU3
          go_wp2_with fail
          go_roundw
          case rel => exact ⟨2, _, _, _, by omega, by go_num, kZ, Lib.hid ⟨HL4.out.1, HNEW.out, HL4.out.2.2⟩, HG4.out⟩
          case measure => simp [intOf]
    · have HP1 := Lib.hid (fun w => offsets_pt q4 w)
      have HP2 := Lib.hid (fun w => nights_any (N := (N : Int)) (bl := bl) (bh := bh) (rl := rl) (rh := rh) (aP := aP) (nP := nP) (cP := cP) (aQ := aQ) (nQ := nQ) (cQ := cQ) (aL := aL) (nL := nL) (cL := cL) (o := o) w)
      obtain ⟨W2, hW2⟩ : ∃ x, wr.alloc (.cells #[.int .i64 1, .int .i64 1, .func (.func 111) #[] #[], .func (.func 112) #[] #[], .func (.func 113) #[] #[]] 133) = x := ⟨_, rfl⟩
      obtain ⟨q5, e5⟩ : ∃ x, wr.heap.size = x := ⟨_, rfl⟩
      have lq := blk_lt kT
      rw [e5] at lq
      have u2 : Up wr W2 := by rw [← hW2]; exact (Up.refl wr).alloc _
      have kK : mblk W2 q5 = some (.cells #[.int .i64 1, .int .i64 1, .func (.func 111) #[] #[], .func (.func 112) #[] #[], .func (.func 113) #[] #[]] 133 (0, 0)) := by rw [← hW2]; exact blk_new _ _ _ e5.symm
      replace kB := u2.blk kB
      have HGu := Lib.hid (grown_trans hG (up_grown u2 (some q4)))
      have HU2 := Lib.hid u2
      go_wp2_with fail
      try rw [hW2, e5]
      refine (HP2.out _).mono ?_
      rintro e W3 ⟨rfl, u3⟩
      replace kK := u3.blk kK
      have HU3 := Lib.hid (HU2.out.trans u3)
      have HKT := Lib.hid (HU3.out.blk kT)
      have HKN3 := Lib.hid (HU3.out.blk kN)
      have HKD3 := Lib.hid (HU3.out.blk kD)
      have HKK := Lib.hid kK
      have HG3 := Lib.hid (grown_trans hG (up_grown HU3.out (some q4)))
      have HL3 := Lib.hid (And.intro (hL.out.1.up HU3.out) (And.intro (hL.out.2.1.up HU3.out) (hL.out.2.2.up HU3.out)))
      have hz3 := (HU3.out).size
      have hz3b := blk_lt kK
      clear u3 HP2 hW2 kB kN kD kR kT u2 kK HGu hG
      go_wp2_with fail
      go_loopw [10, 20] (fun v i wr2 => ∃ j : Nat, j ≤ N ∧ i = .int .i64 j ∧ Hid (wr2.ownsRow W3.heap.size 3 1 v j (T.flat 1 T.encI (T.out true y 1 j))) ∧ Up W3 wr2) (fun _ i _ => N - (intOf i).toNat)
      case atStart => exact ⟨0, Nat.zero_le _, rfl, Lib.hid (World.ownsRow_nil _ _ _ _), Up.refl W3⟩
      case round =>
        obtain ⟨j, hj, rfl, hown, V⟩ := hrel
        have kK := V.blk HKK.out
        have kN := V.blk HKN3.out
        have kD := V.blk HKD3.out
        have kT := V.blk HKT.out
        by_cases hlt : j < N
        · have hlt' : (j : Int) < N := by omega
          obtain ⟨n1, hn1⟩ : ∃ x, y (1 + (j : Int)) = x := ⟨_, rfl⟩
          have hbb := HB.out (1 + (j : Int)) (by unfold T.Alive; omega)
          obtain ⟨p, hp⟩ : ∃ p : Nat, 1 + j = p := ⟨_, rfl⟩
          have hp1 : ((1 : Int) + (j : Int)) = (p : Int) := by omega
          have v1 := HO.out.at_ p (by omega)
          rw [← hp1, hn1] at v1
          rw [hn1] at hbb
          have hp3 : p < 17 := by omega
          have hp4 : (p : Int) < 17 := by omega
          have ewp : IntKind.i64.wrap (p : Int) = p := IntWalk.i64_in _ (by omega)
          have ew1 : IntKind.i64.wrap n1 = n1 := IntWalk.i64_in _ (by omega)
          have ew2 : IntKind.i64.wrap (-n1) = -n1 := IntWalk.i64_in _ (by omega)
          have hsc := Lib.hid (show T.out true y 1 (j + 1) = T.out true y 1 j ++ [-n1] by rw [T.out_succ, hn1]; rfl)
          clear hn1 hbb
          go_wp2_with fail
          have ewm : IntKind.i64.wrap (-1) = -1 := IntWalk.i64_in _ (by omega)
          have ew0 : IntKind.i64.wrap 1 = 1 := IntWalk.i64_in _ (by omega)
          have ew3 : IntKind.i64.wrap (-1 * n1) = -n1 := by rw [show -1 * n1 = -n1 by omega]; exact ew2
          have cN := (cellB kN p).trans v1
          refine (wpIn_wide (n := 5)).1 ?_
          refine wpIn_nrm ?_
          refine regionG (fun w' => Up W3 w' ∧ w'.cell? ⟨q1, p, none⟩ = some (.int .i64 n1) ∧ mblk w' q5 = some (.cells #[.int .i64 1, .int .i64 1, .func (.func 111) #[] #[], .func (.func 112) #[] #[], .func (.func 113) #[] #[]] 133 (0, 0)) ∧ mblk w' q2 = some (.cells #[.func (.func 118) #[] #[], .int .i64 (-1)] 108 (0, 0))) 15 hmx ⟨V.drew, cN, by rw [blk_drew]; exact kK, by rw [blk_drew]; exact kD⟩ (fun hHeld hCl => ?_)
          refine takeG (i := 0) (d := (some 23)) (v := ?v121) rfl rfl (by kernel_rfl) (by kernel_rfl) (by decide) hCl (by kernel_rfl) (by kernel_rfl) (by kernel_rfl) (fun _ _ _ h => h) (by rfl) ?hy121 (fun _ _ _ => trivial) (by assumption) (fun hCl' => ?_)
          case hy121 => ((intro w hSw; (try dsimp only at hSw); (try go_split_ands); go_simp); try with_reducible rfl)
          simp only [Act.put, List.setIfInBounds_toArray, List.set_cons_zero, List.set_cons_succ]
          replace hCl := hCl'; clear hCl'
          refine takeG (i := 1) (d := (some 24)) (v := ?v122) rfl rfl (by kernel_rfl) (by kernel_rfl) (by decide) hCl (by kernel_rfl) (by kernel_rfl) (by kernel_rfl) (fun _ _ _ h => h) (by rfl) ?hy122 (fun _ _ _ => trivial) (by assumption) (fun hCl' => ?_)
          case hy122 => ((intro w hSw; (try dsimp only at hSw); (try go_split_ands); go_simp); try with_reducible rfl)
          simp only [Act.put, List.setIfInBounds_toArray, List.set_cons_zero, List.set_cons_succ]
          replace hCl := hCl'; clear hCl'
          refine takeG (i := 3) (d := (some 26)) (v := ?v123) rfl rfl (by kernel_rfl) (by kernel_rfl) (by decide) hCl (by kernel_rfl) (by kernel_rfl) (by kernel_rfl) (fun _ _ _ h => h) (by rfl) ?hy123 (fun _ _ _ => trivial) (by assumption) (fun hCl' => ?_)
          case hy123 => ((intro w hSw; (try dsimp only at hSw); (try go_split_ands); go_simp); try with_reducible rfl)
          simp only [Act.put, List.setIfInBounds_toArray, List.set_cons_zero, List.set_cons_succ]
          replace hCl := hCl'; clear hCl'
          refine takeG (i := 6) (d := (some 29)) (v := ?v124) rfl rfl (by kernel_rfl) (by kernel_rfl) (by decide) hCl (by kernel_rfl) (by kernel_rfl) (by kernel_rfl) (fun _ _ _ h => h) (by rfl) ?hy124 (fun _ _ _ => trivial) (by assumption) (fun hCl' => ?_)
          case hy124 => ((intro w hSw; (try dsimp only at hSw); (try go_split_ands); go_simp); try with_reducible rfl)
          simp only [Act.put, List.setIfInBounds_toArray, List.set_cons_zero, List.set_cons_succ]
          replace hCl := hCl'; clear hCl'
          refine takeG (i := 8) (d := (some 31)) (v := ?v125) rfl rfl (by kernel_rfl) (by kernel_rfl) (by decide) hCl (by kernel_rfl) (by kernel_rfl) (by kernel_rfl) (fun _ _ _ h => h) (by rfl) ?hy125 (fun _ _ _ => trivial) (by assumption) (fun hCl' => ?_)
          case hy125 => ((intro w hSw; (try dsimp only at hSw); (try go_split_ands); go_simp); try with_reducible rfl)
          simp only [Act.put, List.setIfInBounds_toArray, List.set_cons_zero, List.set_cons_succ]
          replace hCl := hCl'; clear hCl'
          refine takeG (i := 2) (d := (some 25)) (v := ?v126) rfl rfl (by kernel_rfl) (by kernel_rfl) (by decide) hCl (by kernel_rfl) (by kernel_rfl) (by kernel_rfl) (fun _ _ _ h => h) (by rfl) ?hy126 (fun _ _ _ => trivial) (by assumption) (fun hCl' => ?_)
          case hy126 => ((intro w hSw; (try dsimp only at hSw); (try go_split_ands); go_simp); try with_reducible rfl)
          simp only [Act.put, List.setIfInBounds_toArray, List.set_cons_zero, List.set_cons_succ]
          replace hCl := hCl'; clear hCl'
          refine takeG (i := 4) (d := (some 27)) (v := ?v127) rfl rfl (by kernel_rfl) (by kernel_rfl) (by decide) hCl (by kernel_rfl) (by kernel_rfl) (by kernel_rfl) (fun _ _ _ h => h) (by rfl) ?hy127 (fun _ _ _ => trivial) (by assumption) (fun hCl' => ?_)
          case hy127 => ((intro w hSw; (try dsimp only at hSw); (try go_split_ands); go_simp); try with_reducible rfl)
          simp only [Act.put, List.setIfInBounds_toArray, List.set_cons_zero, List.set_cons_succ]
          replace hCl := hCl'; clear hCl'
          refine takeG (i := 7) (d := (some 30)) (v := ?v128) rfl rfl (by kernel_rfl) (by kernel_rfl) (by decide) hCl (by kernel_rfl) (by kernel_rfl) (by kernel_rfl) (fun _ _ _ h => h) (by rfl) ?hy128 (fun _ _ _ => trivial) (by assumption) (fun hCl' => ?_)
          case hy128 => ((intro w hSw; (try dsimp only at hSw); (try go_split_ands); go_simp); try with_reducible rfl)
          simp only [Act.put, List.setIfInBounds_toArray, List.set_cons_zero, List.set_cons_succ]
          replace hCl := hCl'; clear hCl'
          refine takeG (i := 5) (d := (some 28)) (v := ?v129) rfl rfl (by kernel_rfl) (by kernel_rfl) (by decide) hCl (by kernel_rfl) (by kernel_rfl) (by kernel_rfl) (fun _ _ _ h => h) (by rfl) ?hy129 (fun _ _ _ => trivial) (by assumption) (fun hCl' => ?_)
          case hy129 => ((intro w hSw; (try dsimp only at hSw); (try go_split_ands); go_simp); try with_reducible rfl)
          simp only [Act.put, List.setIfInBounds_toArray, List.set_cons_zero, List.set_cons_succ]
          replace hCl := hCl'; clear hCl'
          refine takeG (i := 9) (d := (some 32)) (v := ?v130) rfl rfl (by kernel_rfl) (by kernel_rfl) (by decide) hCl (by kernel_rfl) (by kernel_rfl) (by kernel_rfl) (fun _ _ _ h => h) (by rfl) ?hy130 (fun _ _ _ => trivial) (by assumption) (fun hCl' => ?_)
          case hy130 => ((intro w hSw; (try dsimp only at hSw); (try go_split_ands); go_simp); try with_reducible rfl)
          simp only [Act.put, List.setIfInBounds_toArray, List.set_cons_zero, List.set_cons_succ]
          replace hCl := hCl'; clear hCl'
          refine takeG (i := 10) (d := (some 33)) (v := ?v131) rfl rfl (by kernel_rfl) (by kernel_rfl) (by decide) hCl (by kernel_rfl) (by kernel_rfl) (by kernel_rfl) (fun _ _ _ h => h) (by rfl) ?hy131 (fun _ _ _ => trivial) (by assumption) (fun hCl' => ?_)
          case hy131 => ((intro w hSw; (try dsimp only at hSw); (try go_split_ands); go_simp); try with_reducible rfl)
          simp only [Act.put, List.setIfInBounds_toArray, List.set_cons_zero, List.set_cons_succ]
          replace hCl := hCl'; clear hCl'
          refine takeG (i := 11) (d := (some 34)) (v := ?v132) rfl rfl (by kernel_rfl) (by kernel_rfl) (by decide) hCl (by kernel_rfl) (by kernel_rfl) (by kernel_rfl) (fun _ _ _ h => h) (by rfl) ?hy132 (fun _ _ _ => trivial) (by assumption) (fun hCl' => ?_)
          case hy132 => ((intro w hSw; (try dsimp only at hSw); (try go_split_ands); go_simp); try with_reducible rfl)
          simp only [Act.put, List.setIfInBounds_toArray, List.set_cons_zero, List.set_cons_succ]
          replace hCl := hCl'; clear hCl'
          refine takeG (i := 12) (d := (some 35)) (v := ?v133) rfl rfl (by kernel_rfl) (by kernel_rfl) (by decide) hCl (by kernel_rfl) (by kernel_rfl) (by kernel_rfl) (fun _ _ _ h => h) (by rfl) ?hy133 (fun _ _ _ => trivial) (by assumption) (fun hCl' => ?_)
          case hy133 => ((intro w hSw; (try dsimp only at hSw); (try go_split_ands); go_simp); try with_reducible rfl)
          simp only [Act.put, List.setIfInBounds_toArray, List.set_cons_zero, List.set_cons_succ]
          replace hCl := hCl'; clear hCl'
          refine nextG (i := 13) (by kernel_rfl) rfl (by rfl) hCl (fun K hK => ?_)
          go_simp
          clear hHeld
          have A1 : Up wr (wr.alloc (.cells #[.int .i64 (-n1)] 3)).drew := Up.drew (Up.alloc (Up.refl wr) _)
          have pl : mblk (wr.alloc (.cells #[.int .i64 (-n1)] 3)).drew wr.heap.size = some (.cells #[.int .i64 (-n1)] 3 (0, 0)) := by rw [blk_drew]; exact blk_new _ _ _ rfl
          obtain ⟨q7, hq7⟩ : ∃ q, wr.heap.size = q := ⟨_, rfl⟩
          obtain ⟨X1, hX1⟩ : ∃ X, (wr.alloc (.cells #[.int .i64 (-n1)] 3)).drew = X := ⟨_, rfl⟩
          rw [hX1] at A1 pl
          rw [hq7] at pl
          try rw [hX1]
          try rw [hq7]
          refine hK.out _ _ ⟨V.trans A1, (cellB (A1.blk kN) p).trans v1, A1.blk kK, A1.blk kD⟩ (fun _ hCl => ?_)
          clear hK K hX1 hq7
          try simp only [Act.put, List.setIfInBounds_toArray, List.set_cons_zero, List.set_cons_succ]
          refine nextG (i := 14) (by kernel_rfl) rfl (by rfl) hCl (fun K hK => ?_)
          have R1 := row_up hown.out A1
          have hzz := (V.trans A1).size
          refine T.opIn_app T.elI (.tmp 23) (.tmp 36) rfl (T.one_int _ _ pl) rfl W3.heap.size _ j rfl R1 (by omega) (by simp) hzz ?_
          intro v2 X2 R2 hg2
          replace R2 : X2.ownsRow W3.heap.size 3 1 v2 (j + 1) _ := R2
          have V2 := Up.grown (V.trans A1) hg2 (fun k e => row_base R1 k e)
          refine hK.out _ _ ⟨V2, (cellB (grown_blk hg2 (A1.blk kN) (row_block R1 (by omega))) p).trans v1, grown_blk hg2 (A1.blk kK) (row_block R1 (by omega)), grown_blk hg2 (A1.blk kD) (row_block R1 (by omega))⟩ (fun _ hCl => ?_)
          clear hK K
          try simp only [Act.put, List.setIfInBounds_toArray]
          have HR2 := Lib.hid R2
          clear hg2 pl R1 R2 A1 cN hown kK kN kD kT V
          refine lastG (i := 15) (by kernel_rfl) rfl (by rfl) (by decide) (fun K hK => ?_)
          go_simp
          refine hK.out _ _ ?_
          clear hK K
          refine doneG (by kernel_rfl) ?_ _
          refine S.nrm_intro ?_
          go_wp2
          go_roundw
          case rel => exact ⟨j + 1, by omega, by go_num, Lib.hid (by rw [hsc.out]; exact HR2.out), V2⟩
          case measure => simp [intOf]; omega
        · obtain rfl : N = j := by omega
          have hlt' : ¬ ((N : Nat) : Int) < N := by omega
          obtain ⟨ra, rc, rfl, hrc, hrm⟩ := row_val hown.out
          obtain ⟨ra2, rc2, hv, hn2, hI, hbs⟩ := Ints.of_row hown.out (by omega)
          injection hv with hv1 hv2 hv3
          subst hv1 hv3
          have F2 := Lib.hid (fun w (u : Up wr w) => cellB (u.blk kK))
          have HKT2 := Lib.hid kT
          have HV := Lib.hid V
          have HI := Lib.hid (And.intro hI hbs)
          clear hown hI hbs kK kN kD kT V hn2
          go_wp2_with fail
          refine (wpIn_wide (n := 5)).1 ?_
          refine wpIn_nrm ?_
          refine T.regionQ (fun w' => Up wr w') 10 1 hmx (by kernel_rfl) (by kernel_rfl) ((Up.refl wr).drew) (fun hCl => ?_)
          refine T.qTake (i := 0) (d := (some 39)) (v := ?v135) rfl rfl (by kernel_rfl) (by decide) hCl (by kernel_rfl) (by kernel_rfl) (by kernel_rfl) (by rfl) ?hy135 (fun _ _ _ => trivial) (fun hCl' => ?_)
          case hy135 => (intro w hSw; refine T.qVal ?_ hSw; (have f2 := F2.out w hSw); go_simp; try with_reducible rfl)
          simp only [Act.put, List.setIfInBounds_toArray, List.set_cons_zero, List.set_cons_succ]
          replace hCl := hCl'; clear hCl'
          refine T.qTake (i := 3) (d := (some 42)) (v := ?v136) rfl rfl (by kernel_rfl) (by decide) hCl (by kernel_rfl) (by kernel_rfl) (by kernel_rfl) (by rfl) ?hy136 (fun _ _ _ => trivial) (fun hCl' => ?_)
          case hy136 => (intro w hSw; refine T.qVal ?_ hSw; (have f2 := F2.out w hSw); go_simp; try with_reducible rfl)
          simp only [Act.put, List.setIfInBounds_toArray, List.set_cons_zero, List.set_cons_succ]
          replace hCl := hCl'; clear hCl'
          refine T.qTake (i := 4) (d := (some 43)) (v := ?v137) rfl rfl (by kernel_rfl) (by decide) hCl (by kernel_rfl) (by kernel_rfl) (by kernel_rfl) (by rfl) ?hy137 (fun _ _ _ => trivial) (fun hCl' => ?_)
          case hy137 => (intro w hSw; refine T.qVal ?_ hSw; (have f2 := F2.out w hSw); go_simp; try with_reducible rfl)
          simp only [Act.put, List.setIfInBounds_toArray, List.set_cons_zero, List.set_cons_succ]
          replace hCl := hCl'; clear hCl'
          refine T.qTake (i := 6) (d := (some 45)) (v := ?v138) rfl rfl (by kernel_rfl) (by decide) hCl (by kernel_rfl) (by kernel_rfl) (by kernel_rfl) (by rfl) ?hy138 (fun _ _ _ => trivial) (fun hCl' => ?_)
          case hy138 => (intro w hSw; refine T.qVal ?_ hSw; (have f2 := F2.out w hSw); go_simp; try with_reducible rfl)
          simp only [Act.put, List.setIfInBounds_toArray, List.set_cons_zero, List.set_cons_succ]
          replace hCl := hCl'; clear hCl'
          refine T.qTake (i := 1) (d := (some 40)) (v := ?v139) rfl rfl (by kernel_rfl) (by decide) hCl (by kernel_rfl) (by kernel_rfl) (by kernel_rfl) (by rfl) ?hy139 (fun _ _ _ => trivial) (fun hCl' => ?_)
          case hy139 => (intro w hSw; refine T.qVal ?_ hSw; (have f2 := F2.out w hSw); go_simp; try with_reducible rfl)
          simp only [Act.put, List.setIfInBounds_toArray, List.set_cons_zero, List.set_cons_succ]
          replace hCl := hCl'; clear hCl'
          refine T.qTake (i := 2) (d := (some 41)) (v := (.pointer (some ⟨q4, 0, none⟩))) rfl rfl (by kernel_rfl) (by decide) hCl (by kernel_rfl) (by kernel_rfl) (by kernel_rfl) (by rfl) ?hy140 (fun _ _ _ => trivial) (fun hCl' => ?_)
          case hy140 => (intro w hSw; (have f2 := F2.out w hSw); go_simp; (refine (callsIn_wide.2 (HP1.out w)).mono ?_; rintro e w3 ⟨rfl, rfl⟩; exact ⟨rfl, hSw⟩))
          simp only [Act.put, List.setIfInBounds_toArray, List.set_cons_zero, List.set_cons_succ]
          replace hCl := hCl'; clear hCl'
          refine T.qTake (i := 5) (d := (some 44)) (v := ?v141) rfl rfl (by kernel_rfl) (by decide) hCl (by kernel_rfl) (by kernel_rfl) (by kernel_rfl) (by rfl) ?hy141 (fun _ _ _ => trivial) (fun hCl' => ?_)
          case hy141 => (intro w hSw; refine T.qVal ?_ hSw; (have f2 := F2.out w hSw); go_simp; try with_reducible rfl)
          simp only [Act.put, List.setIfInBounds_toArray, List.set_cons_zero, List.set_cons_succ]
          replace hCl := hCl'; clear hCl'
          refine T.qTake (i := 7) (d := (some 46)) (v := ?v142) rfl rfl (by kernel_rfl) (by decide) hCl (by kernel_rfl) (by kernel_rfl) (by kernel_rfl) (by rfl) ?hy142 (fun _ _ _ => trivial) (fun hCl' => ?_)
          case hy142 => (intro w hSw; refine T.qVal ?_ hSw; (have f2 := F2.out w hSw); go_simp; try with_reducible rfl)
          simp only [Act.put, List.setIfInBounds_toArray, List.set_cons_zero, List.set_cons_succ]
          replace hCl := hCl'; clear hCl'
          refine T.qTake (i := 8) (d := (some 47)) (v := ?v143) rfl rfl (by kernel_rfl) (by decide) hCl (by kernel_rfl) (by kernel_rfl) (by kernel_rfl) (by rfl) ?hy143 (fun _ _ _ => trivial) (fun hCl' => ?_)
          case hy143 => (intro w hSw; refine T.qVal ?_ hSw; (have f2 := F2.out w hSw); go_simp; try with_reducible rfl)
          simp only [Act.put, List.setIfInBounds_toArray, List.set_cons_zero, List.set_cons_succ]
          replace hCl := hCl'; clear hCl'
          refine T.qTake (i := 9) (d := (some 48)) (v := ?v144) rfl rfl (by kernel_rfl) (by decide) hCl (by kernel_rfl) (by kernel_rfl) (by kernel_rfl) (by rfl) ?hy144 (fun _ _ _ => trivial) (fun hCl' => ?_)
          case hy144 => (intro w hSw; refine T.qVal ?_ hSw; (have f2 := F2.out w hSw); go_simp; try with_reducible rfl)
          simp only [Act.put, List.setIfInBounds_toArray, List.set_cons_zero, List.set_cons_succ]
          replace hCl := hCl'; clear hCl'
          refine T.tail_intro (by kernel_rfl) (fun Y hY => ?_)
          have kT2 := hY.blk HKT2.out
          have fT := frozB kT2
          have cT := cellB kT2
          have lT := blk_lt kT2
          refine lastG (i := 10) (by kernel_rfl) rfl (by rfl) (by decide) (fun K hK => ?_)
          go_simp
          refine hK.out _ _ ?_
          clear hK K
          refine doneG (by kernel_rfl) ?_ _
          refine S.nrm_intro ?_
          obtain ⟨Z, hZ⟩ : ∃ z, Y.setCell ⟨q4, 0, none⟩ (.slice ra N N) = z := ⟨_, rfl⟩
          have kZ : mblk Z q4 = some (.cells #[(.slice ra N N), vE, vA] 128 (0, 0)) := by rw [← hZ]; exact blk_put kT2 0 _
          have gZ : Y.grownBy Z (some q4) := by rw [← hZ]; exact grown_set Y q4 0 _
          try rw [hZ]
          have UY := HV.out.trans hY
          have hW := HG3.out.size
          have b1 : q4 < W1.heap.size := by omega
          have HG4 := Lib.hid (grown_trans HG3.out (grown_trans (up_grown UY (some q4)) gZ))
          have hnew : T.Lay W1.heap.size Z (.slice ra N N) (T.out true y 1 N) := ⟨(HI.out.1.up hY).keep (base := W1.heap.size) (fun k h => Nat.le_trans hW (HI.out.2 k h)) b1 gZ, fun k h => Nat.le_trans hW (HI.out.2 k h), _, _, _, rfl⟩
          have HL4 := Lib.hid (And.intro ((HL3.out.1.up UY).keep b1 gZ) (And.intro ((HL3.out.2.1.up UY).keep b1 gZ) ((HL3.out.2.2.up UY).keep b1 gZ)))
          have HNEW := Lib.hid hnew
          clear hZ gZ UY hnew kT2 fT cT lT HI HL3 hL HKT2 HKT HKN3 HKD3 HKK HV F2 HG3 hY HU3
          go_wp2_with fail
          go_roundw
          case rel => exact ⟨3, _, _, _, by omega, by go_num, kZ, Lib.hid ⟨HL4.out.1, HL4.out.2.1, HNEW.out⟩, HG4.out⟩
          case measure => simp [intOf]
    · obtain ⟨l1, l2, l3⟩ := hL.out
      obtain ⟨aE, nE, cE, rfl⟩ := l1.2.2
      obtain ⟨aA, nA, cA, rfl⟩ := l2.2.2
      obtain ⟨aO, nO, cO, rfl⟩ := l3.2.2
      have HLL := Lib.hid (And.intro l1 (And.intro l2 l3))
      have cT := cellB kT
      have cR := cellB kR
      have fR := frozB kR
      have lR := blk_lt kR
      have lT := blk_lt kT
      have UX := Lib.hid (UW.out.grown hG (fun k e => by have := Option.some.inj e; omega))
      have hww := UW.out.size
      clear l1 l2 l3 kB kN kD hL hG
      go_wp2_with fail
      obtain ⟨Z, hZ⟩ : ∃ z, ((wr.setCell ⟨q3, 0, none⟩ (.slice aO nO cO)).setCell ⟨q3, 1, none⟩ (.slice aE nE cE)).setCell ⟨q3, 2, none⟩ (.slice aA nA cA) = z := ⟨_, rfl⟩
      have gZ : wr.grownBy Z (some q3) := by rw [← hZ]; exact grown_trans (grown_trans (grown_set wr q3 0 _) (grown_set _ q3 1 _)) (grown_set _ q3 2 _)
      have cZ : ∀ j, Z.cell? ⟨q3, j, none⟩ = (#[Value.slice aO nO cO, .slice aE nE cE, .slice aA nA cA] : Array Value)[j]? := by rw [← hZ]; exact cellB (blk_put (blk_put (blk_put kR 0 _) 1 _) 2 _)
      try rw [hZ]
      have b3 : q3 < W1.heap.size := by omega
      have fin : ∀ v xs, T.Lay W1.heap.size wr v xs → T.Lay w.heap.size Z v xs := fun v xs h => ⟨h.1.keep h.2.1 b3 gZ, fun k e => Nat.le_trans hww (h.2.1 k e), h.2.2⟩
      exact bodyPost_ret (v := .agg #[.slice aO nO cO, .slice aE nE cE, .slice aA nA cA]) (by simp [results, Try.results72, go_sem, cZ]) rfl ⟨⟨_, _, _, rfl, fin _ _ HLL.out.2.2, fin _ _ HLL.out.1, fin _ _ HLL.out.2.1⟩, UX.out.grown gZ (fun k e => by have := Option.some.inj e; omega)⟩
end

end Go.Proofs.Ytlpkheoljbdajaa
