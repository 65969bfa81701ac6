import Derived.Test.YtghelfbigbdkkaaTownD
import Derived.Laws.OwnMore
/- The contracts of dial's has and of OnesCount64. -/
namespace Go.Proofs.Ytghelfbigbdkkaa
open Go.RowKit

set_option maxRecDepth 100000 in
theorem has_any (f u h t : Int) (w : World) :
    Calls Try.prog 50 #[.agg #[.int .i64 f, .int .i64 u, .int .i64 h], .int .i64 t] w fun e w' => e = .returned (.bool (inB t f (wrap64 (u - 1)))) ∧ Up w w' := by
  go_enter Try.func50, Try.ntmps50
  go_wp2_with fail
  refine (within_any _ _ _ _).mono ?_
  rintro e w1 ⟨rfl, rfl⟩
  go_wp2
  go_ret
  exact ⟨rfl, (Up.refl _).alloc _⟩

/-- what OnesCount64 computes, step by step -/
def D.pop (x : Int) : Int :=
  let a := IntKind.u64.wrap (bits .and .u64 (x / 2) 6148914691236517205 + bits .and .u64 x 6148914691236517205)
  let b := IntKind.u64.wrap (bits .and .u64 (a / 4) 3689348814741910323 + bits .and .u64 a 3689348814741910323)
  let c := bits .and .u64 (IntKind.u64.wrap (b / 16 + b)) 1085102592571150095
  let d := IntKind.u64.wrap (c + c / 256)
  let e := IntKind.u64.wrap (d + d / 65536)
  let f := IntKind.u64.wrap (e + e / 4294967296)
  bits .and .i64 (wrap64 f) 127

set_option maxRecDepth 100000 in
theorem ones_any (x : Int) (w : World) :
    Calls Try.prog 52 #[.int .u64 x] w fun e w' => e = .returned (.int .i64 (D.pop x)) ∧ w' = w := by
  go_enter Try.func52, Try.ntmps52
  go_wp2
  go_ret
  exact ⟨rfl, rfl⟩

end Go.Proofs.Ytghelfbigbdkkaa

/- The contract of dial's periods. -/
namespace Go.Proofs.Ytghelfbigbdkkaa
open Go.RowKit

/-- a town's periods, three numbers each: from, until, ahead -/
def D.pers (T : Int) : Int → Int → List (Int × Int) → List Int
  | f, a, [] => [f, T, a]
  | f, a, z :: M => f :: z.1 :: a :: D.pers T z.1 z.2 M
theorem D.pers_len (T f a : Int) (M : List (Int × Int)) : (D.pers T f a M).length = (M.length + 1) * 3 := by
  induction M generalizing f a with
  | nil => rfl
  | cons z M ih => simp only [D.pers, List.length_cons, ih]; omega
theorem D.pers_snoc (T f a : Int) (M : List (Int × Int)) (z : Int × Int) : D.pers T f a (M ++ [z]) = (D.pers T f a M).set (M.length * 3 + 1) z.1 ++ [z.1, T, z.2] := by
  induction M generalizing f a with
  | nil => rfl
  | cons y M ih =>
    have e : (M.length + 1) * 3 + 1 = (M.length * 3 + 1) + 1 + 1 + 1 := by omega
    simp only [List.cons_append, D.pers, List.length_cons, ih, e, List.set_cons_succ]
theorem cell_three_at (w : World) (x y z : Value) (t : TypeId) (n : Nat) (hn : n = w.heap.size) : ∀ j u, [x, y, z][j]? = some u → (w.alloc (.cells #[x, y, z] t)).cell? ((⟨n, 0, none⟩ : Addr).add j) = some u := by
  subst hn
  intro j u hj
  match j, hj with
  | 0, hj => simp at hj; subst hj; simp [Addr.add]
  | 1, hj => simp at hj; subst hj; simp [Addr.add]
  | 2, hj => simp at hj; subst hj; simp [Addr.add]

theorem Try.infoPeriod : (Try.prog.info? 95).map (fun i => (i.zero, i.size, i.bytes)) = some (some (.agg #[.int .i64 0, .int .i64 0, .int .i64 0]), 3, 24) := by kernel_rfl

set_option maxRecDepth 100000 in
set_option maxHeartbeats 1000000 in
theorem periods_any {ts cs : Array Value} {ah : Int} {a' : Option Addr} {n' c' : Nat} (T : Town ts cs ah a' n' c') {tot : Int} (KT : ∀ w, Calls Try.prog 23 #[.agg cs] w fun e w' => e = .returned (.int .i64 tot) ∧ Up w w') {M : List (Int × Int)} {w : World} (B : TownArg w a' n' c' M) (hn : n' ≤ 6) :
    Calls Try.prog 49 #[.agg ts] w fun e w' => ∃ g cap, e = .returned (.slice (some ⟨g, 0, none⟩) (n' + 1) cap) ∧ Up w w' ∧ w.heap.size ≤ g ∧ g < w'.heap.size ∧ ∀ j, j < (n' + 1) * 3 → w'.cell? ⟨g, j, none⟩ = ((D.pers tot 0 ah M).map (Value.int .i64))[j]? := by
  have hs := Lib.hid T.sz
  have t15 := T.t15
  have t16 := T.t16
  have hT := T.cal
  have HB := Lib.hid B
  have HK := Lib.hid KT
  obtain ⟨i0, hi, hz0, hz1, hz2⟩ := info_parts Try.infoPeriod
  clear T B KT
  go_enter Try.func49, Try.ntmps49
  go_wp2_with fail
  refine (HK.out _).mono ?_
  rintro e w1 ⟨rfl, u1⟩
  have k1 := u1.blk (blk_new w (.cells ts 74) _ rfl)
  have U1 := ((Up.refl w).alloc (.cells ts 74)).trans u1
  have z1 := u1.size
  rw [World.size_alloc] at z1
  clear u1
  go_wp2_with fail
  go_loopw [4, 5, 6, 20] (fun l _ _ i wr => ∃ k : Nat, k ≤ n' ∧ i = .int .i64 k ∧ wr.ownsRow (w.heap.size + 1) 95 3 l (k + 1) ((D.pers tot 0 ah (M.take k)).map (Value.int .i64)) ∧ mblk wr w.heap.size = some (.cells ts 74) ∧ Up w wr) (fun _ _ _ i _ => n' - (intOf i).toNat)
  case atStart => exact ⟨0, Nat.zero_le _, rfl, World.ownsRow_lit w1 _ 1 z1 (by decide) rfl, blk_keep _ k1, U1.alloc _⟩
  case round =>
    obtain ⟨k, hk, rfl, hown, k1, U1⟩ := hrel
    have l1 := blk_lt k1
    by_cases hlt : k < n'
    · obtain ⟨b, off, rfl, hC⟩ := HB.out.mem (by omega)
      have dd := hC.up U1
      have hltM : k < M.length := by rw [← HB.out.len]; exact hlt
      have e1 := dd.tick k hltM
      have e2 := dd.ahead k hltM
      have e3 := dd.lt
      generalize hz : M.getD k (0, 0) = z at *
      have hlk : (M.take k).length = k := by rw [List.length_take]; omega
      have hts := Lib.hid (show (D.pers tot 0 ah (M.take (k + 1))).map (Value.int .i64) = ((D.pers tot 0 ah (M.take k)).map (Value.int .i64)).set (k * 3 + 1) (.int .i64 z.1) ++ [.int .i64 z.1, .int .i64 tot, .int .i64 z.2] by
        rw [List.take_succ_eq_append_getElem hltM, D.pers_snoc, hlk, ← hz, List.getD_eq_getElem?_getD, List.getElem?_eq_getElem hltM, List.map_append, List.map_set]; rfl)
      have hll : ((D.pers tot 0 ah (M.take k)).map (Value.int .i64)).length = (k + 1) * 3 := by rw [List.length_map, D.pers_len, hlk]
      generalize (D.pers tot 0 ah (M.take k)).map (Value.int .i64) = xs at *
      obtain ⟨g, cap, rfl⟩ := Joins.ownsRow_form hown (by omega)
      have hg0 := own_block hown (k := g) rfl
      have hgz := (hown.lt g rfl).2
      have hown2 := hown.alloc (.cells #[.int .i64 z.1, .int .i64 z.2] 52)
      obtain ⟨hown3, hgrow3⟩ := hown.stored (k * 3 + 1) (.int .i64 z.1)
      have fz := hown2.frozenAt (k * 3 + 1)
      have fc : ∃ q, (wr.alloc (.cells #[.int .i64 z.1, .int .i64 z.2] 52)).cell? ⟨g, k * 3 + 1, none⟩ = some q := ⟨_, (hown2.cellAt (k * 3 + 1) (by omega)).trans (List.getElem?_eq_getElem (by omega))⟩
      obtain ⟨q, fc⟩ := fc
      clear hz dd hC hlk hll hltM
      go_wp2_with (at_builtin; go_loud (refine wpList_append_own _ rfl (.tmp 31) (.tmp 38) 92 rfl (w.heap.size + 1) 95 i0 (.agg #[.int .i64 0, .int .i64 0, .int .i64 0]) 3 24 Try.underlying92 hi hz0 hz1 hz2 rfl (by decide) _ (k + 1) _ rfl ((hown3.alloc _).alloc _) ⟨wr.heap.size + 1, 0, none⟩ 1 1 [.int .i64 z.1, .int .i64 tot, .int .i64 z.2] rfl rfl (cell_three_at _ _ _ _ _ _ (by simp)) (by simp [Value.oneCell']) (by unfold maxLen; omega) (by omega) (by simp; omega) ?_; intro v' w3 hown4 hgrow4 _))
      have k3 := grown_blk hgrow4 (blk_keep _ (blk_keep _ (grown_blk hgrow3 k1 (by intro q; injection q; omega)))) (own_ne hown (by omega))
      have U3 := (((U1.grown hgrow3 (by rintro j ⟨⟩; omega)).alloc _).alloc _).grown hgrow4 (fun j hj => by have := own_block hown hj; omega)
      clear hgrow3 hgrow4 hown hown2 hown3 e1 e2 e3 U1 k1 fz fc
      go_wp2
      go_roundw
      case rel => exact ⟨k + 1, by omega, by go_num, by rw [hts.out]; exact hown4, k3, U3⟩
      case measure => simp [intOf]; omega
    · obtain rfl : k = n' := by omega
      obtain ⟨g, cap, rfl⟩ := Joins.ownsRow_form hown (by omega)
      have hM : M.take k = M := List.take_of_length_le (by rw [← HB.out.len]; exact Nat.le_refl _)
      rw [hM] at hown
      have hg0 := own_block hown (k := g) rfl
      have hgz := (hown.lt g rfl).2
      go_wp2
      go_ret
      exact ⟨g, cap, rfl, U1, by omega, hgz, fun j hj => hown.cellAt j hj⟩

end Go.Proofs.Ytghelfbigbdkkaa

/- The contract of dial's ticks, of what it calls by contracts. -/
namespace Go.Proofs.Ytghelfbigbdkkaa
open Go.RowKit

/-- the tick that a period holds, if any -/
def D.hit (tv : Int → Int) (ok : Int → Bool) (X : Nat → Int) (k : Nat) : List Int :=
  if (ok (wrap64 (-X (k * 3 + 2))) && inB (tv (wrap64 (-X (k * 3 + 2)))) (X (k * 3)) (wrap64 (X (k * 3 + 1) - 1))) = true then [tv (wrap64 (-X (k * 3 + 2)))] else []
/-- the ticks of the first periods -/
def D.hits (tv : Int → Int) (ok : Int → Bool) (X : Nat → Int) : Nat → List Int
  | 0 => []
  | k + 1 => D.hits tv ok X k ++ D.hit tv ok X k
theorem D.hits_len (tv : Int → Int) (ok : Int → Bool) (X : Nat → Int) (k : Nat) : (D.hits tv ok X k).length ≤ k := by
  induction k with
  | zero => exact Nat.le_refl _
  | succ k ih =>
    have : (D.hit tv ok X k).length ≤ 1 := by unfold D.hit; split <;> simp
    simp only [D.hits, List.length_append]; omega

theorem cell3_2 {w : World} {b : Nat} {x y z : Value} {t : TypeId} (h : mblk w b = some (.cells #[x, y, z] t (0, 0))) : w.cell? ⟨b, 2, none⟩ = some z := by rw [cellB h]; rfl

theorem own_up {w w' : World} {base size n : Nat} {e : TypeId} {v : Value} {xs : List Value} (h : w.ownsRow base e size v n xs) (u : Up w w') : w'.ownsRow base e size v n xs :=
  h.kept (row := none) ⟨u.os, u.tape, u.output, u.size, fun j hj _ => u.block j hj⟩ (by cases hv : v.ownBlock <;> simp)

set_option maxRecDepth 100000 in
set_option maxHeartbeats 1000000 in
theorem ticks_nil {ts cs : Array Value} (hsz : ts.size = 17) (hcal : calOf ts = cs) (a b c q : Int) (w : World)
    (HDv : ∀ w, Calls Try.prog 48 #[.agg cs, rd a b c q] w fun e w' => e = .returned (.bool false) ∧ Up w w') :
    Calls Try.prog 32 #[.agg ts, rd a b c q] w fun e w' => e = .returned (.slice none 0 0) ∧ Up w w' := by
  have hs := Lib.hid hsz
  have hT := hcal
  have HK := Lib.hid HDv
  clear hsz hcal HDv
  go_enter Try.func32, Try.ntmps32
  go_wp2_with fail
  refine (HK.out _).mono ?_
  rintro e w1 ⟨rfl, u1⟩
  go_wp2
  go_ret
  exact ⟨rfl, (((Up.refl w).alloc _).alloc _).trans u1⟩

set_option maxRecDepth 100000 in
set_option maxHeartbeats 500000 in
theorem ticks_list {ts cs : Array Value} (hsz : ts.size = 17) (hcal : calOf ts = cs) (a b c q : Int) (w : World) (np : Nat) (hK7 : np ≤ 7) (X : Nat → Int) (f0 f1 f2 tv : Int → Int) (ok : Int → Bool)
    (HDv : ∀ w, Calls Try.prog 48 #[.agg cs, rd a b c q] w fun e w' => e = .returned (.bool true) ∧ Up w w')
    (HP : ∀ w0, Up w w0 → Calls Try.prog 49 #[.agg ts] w0 fun e w' => ∃ g cap, e = .returned (.slice (some ⟨g, 0, none⟩) np cap) ∧ Up w0 w' ∧ w0.heap.size ≤ g ∧ g < w'.heap.size ∧ ∀ j, j < np * 3 → w'.cell? ⟨g, j, none⟩ = some (.int .i64 (X j)))
    (HL : ∀ k w, Calls Try.prog 30 #[.agg ts, rd a b c q, .int .i64 k] w fun e w' => e = .returned (rd (f0 k) (f1 k) (f2 k) q) ∧ Up w w')
    (HT : ∀ k w, Calls Try.prog 26 #[.agg cs, rd (f0 k) (f1 k) (f2 k) q] w fun e w' => e = .returned (.tuple #[.int .i64 (tv k), .bool (ok k)]) ∧ Up w w') :
    Calls Try.prog 32 #[.agg ts, rd a b c q] w fun e w' => ∃ v, e = .returned v ∧ Up w w' ∧ ((D.hits tv ok X np = [] ∧ v = .slice none 0 0) ∨
      ∃ g, v = .slice (some ⟨g, 0, none⟩) (D.hits tv ok X np).length (D.hits tv ok X np).length ∧ w.heap.size ≤ g ∧ g < w'.heap.size ∧ ∀ j, j < (D.hits tv ok X np).length → w'.cell? ⟨g, j, none⟩ = ((D.hits tv ok X np).map (Value.int .i64))[j]?) := by
  have hs := Lib.hid hsz
  have hT := hcal
  have HQ := Lib.hid HDv
  have HPP := Lib.hid HP
  have HLL := Lib.hid HL
  have HTT := Lib.hid HT
  obtain ⟨i0, hi, hz0, hz1, hz2⟩ := info_parts Try.infoInt
  clear hsz hcal HDv HP HL HT
  go_enter Try.func32, Try.ntmps32
  go_wp2_with fail
  refine (HQ.out _).mono ?_
  rintro e w1 ⟨rfl, u1⟩
  have k1 := u1.blk (blk_keep _ (blk_new w (.cells ts 74) _ rfl))
  have k2 := u1.blk (b := w.heap.size + 1) (o := .cells #[.int .i64 a, .int .i64 b, .int .i64 c, .int .i64 q] 34) (by rw [blk_new _ _ _ (by simp)])
  have U1 := (((Up.refl w).alloc _).alloc _).trans u1
  clear u1 HQ
  go_wp2_with fail
  refine (HPP.out _ U1).mono ?_
  rintro e w2 ⟨g, cap, rfl, u2, g1, g2, hc⟩
  have k3 := u2.blk k1
  have k4 := u2.blk k2
  have U2 := U1.trans u2
  have HC := Lib.hid hc
  clear u2 k1 k2 U1 hc HPP
  go_wp2_with fail
  go_loopw [5, 7, 8, 9, 18] (fun l _ _ _ i wr => ∃ k : Nat, k ≤ np ∧ i = .int .i64 k ∧ wr.ownsRow w2.heap.size 3 1 l (D.hits tv ok X k).length ((D.hits tv ok X k).map (Value.int .i64)) ∧ Up w2 wr ∧ (D.hits tv ok X k = [] → l = .slice none 0 0)) (fun _ _ _ _ i _ => np - (intOf i).toNat)
  case atStart => exact ⟨0, Nat.zero_le _, rfl, by simpa [D.hits] using World.ownsRow_nil _ _ _ _, Up.refl _, fun _ => rfl⟩
  case round =>
    obtain ⟨k, hk, rfl, hown, V1, hnil⟩ := hrel
    have i1 := V1.blk k3
    have i2 := V1.blk k4
    by_cases hlt : k < np
    · have c0 := (V1.facts.1 g (k * 3) g2).trans (HC.out (k * 3) (by omega))
      have c1 := (V1.facts.1 g (k * 3 + 1) g2).trans (HC.out (k * 3 + 1) (by omega))
      have c2 := (V1.facts.1 g (k * 3 + 2) g2).trans (HC.out (k * 3 + 2) (by omega))
      go_wp2_with fail
      obtain ⟨W0, hW0⟩ : ∃ W0, wr.alloc (.cells #[.int .i64 (X (k * 3)), .int .i64 (X (k * 3 + 1)), .int .i64 (X (k * 3 + 2))] 95) = W0 := ⟨_, rfl⟩
      have V2 : Up wr W0 := by rw [← hW0]; exact (Up.refl wr).alloc _
      have i3 : mblk W0 wr.heap.size = some (.cells #[.int .i64 (X (k * 3)), .int .i64 (X (k * 3 + 1)), .int .i64 (X (k * 3 + 2))] 95) := by rw [← hW0]; exact blk_new _ _ _ (by simp)
      rw [hW0]
      have j1 := V2.blk i1
      have j2 := V2.blk i2
      have hht : D.hits tv ok X (k + 1) = D.hits tv ok X k ++ D.hit tv ok X k := rfl
      have hhd : D.hit tv ok X k = if (ok (wrap64 (-X (k * 3 + 2))) && inB (tv (wrap64 (-X (k * 3 + 2)))) (X (k * 3)) (wrap64 (X (k * 3 + 1) - 1))) = true then [tv (wrap64 (-X (k * 3 + 2)))] else [] := rfl
      have hle := D.hits_len tv ok X k
      have HL2 := Lib.hid (HLL.out (wrap64 (-X (k * 3 + 2))))
      have HT2 := Lib.hid (HTT.out (wrap64 (-X (k * 3 + 2))))
      generalize X (k * 3) = x0 at *
      generalize X (k * 3 + 1) = x1 at *
      generalize X (k * 3 + 2) = x2 at *
      have HH := Lib.hid hht
      have HD := Lib.hid hhd
      clear hW0 i1 i2 c0 c1 c2 hht hhd
      refine wp_region_held_drew (S := fun w' => mblk w' w.heap.size = some (.cells ts 74 (0, 0)) ∧ mblk w' (w.heap.size + 1) = some (.cells #[.int .i64 a, .int .i64 b, .int .i64 c, .int .i64 q] 34 (0, 0)) ∧ mblk w' wr.heap.size = some (.cells #[.int .i64 (x0), .int .i64 (x1), .int .i64 (x2)] 95 (0, 0)) ∧ Up wr w' ∧ w'.cell? ⟨wr.heap.size, 2, none⟩ = some (.int .i64 (x2))) (by kernel_rfl) ⟨by rw [blk_drew]; exact j1, by rw [blk_drew]; exact j2, by rw [blk_drew]; exact i3, V2.drew, (cellB (w := W0.drew) (by rw [blk_drew]; exact i3) 2)⟩ (fun hHeld => ?_)
      clear j1 j2 i3 V2
      refine takeH (i := 0) (d := (some 23)) (v := ?v1) rfl rfl (by kernel_rfl) (by kernel_rfl) (by kernel_rfl) (fun _ _ _ h => h) (by rfl) ?hy1 (by assumption) ?_
      case hy1 => ((intro w hSw; (try dsimp only at hSw); (try go_split_ands); go_simp); try with_reducible rfl)
      simp only [Act.put, List.setIfInBounds_toArray, List.set_cons_zero, List.set_cons_succ]
      refine takeH (i := 2) (d := (some 25)) (v := ?v2) rfl rfl (by kernel_rfl) (by kernel_rfl) (by kernel_rfl) (fun _ _ _ h => h) (by rfl) ?hy2 (by assumption) ?_
      case hy2 => ((intro w hSw; (try dsimp only at hSw); (try go_split_ands); go_simp); try with_reducible rfl)
      simp only [Act.put, List.setIfInBounds_toArray, List.set_cons_zero, List.set_cons_succ]
      refine takeH (i := 3) (d := (some 26)) (v := ?v3) rfl rfl (by kernel_rfl) (by kernel_rfl) (by kernel_rfl) (fun _ _ _ h => h) (by rfl) ?hy3 (by assumption) ?_
      case hy3 => ((intro w hSw; (try dsimp only at hSw); (try go_split_ands); go_simp); try with_reducible rfl)
      simp only [Act.put, List.setIfInBounds_toArray, List.set_cons_zero, List.set_cons_succ]
      refine takeH (i := 4) (d := (some 27)) (v := ?v4) rfl rfl (by kernel_rfl) (by kernel_rfl) (by kernel_rfl) (fun _ _ _ h => h) (by rfl) ?hy4 (by assumption) ?_
      case hy4 => ((intro w hSw; (try dsimp only at hSw); (try go_split_ands); go_simp); try with_reducible rfl)
      simp only [Act.put, List.setIfInBounds_toArray, List.set_cons_zero, List.set_cons_succ]
      refine takeH (i := 1) (d := (some 24)) (v := ?v5) rfl rfl (by kernel_rfl) (by kernel_rfl) (by kernel_rfl) (fun _ _ _ h => h) (by rfl) ?hy5 (by assumption) ?_
      case hy5 => ((intro w hSw; (try dsimp only at hSw); (try go_split_ands); go_simp); try with_reducible rfl)
      simp only [Act.put, List.setIfInBounds_toArray, List.set_cons_zero, List.set_cons_succ]
      refine takeH (i := 5) (d := (some 28)) (v := ?v6) rfl rfl (by kernel_rfl) (by kernel_rfl) (by kernel_rfl) (fun _ _ _ h => h) (by rfl) ?hy6 (by assumption) ?_
      case hy6 => ((intro w hSw; (try dsimp only at hSw); (try go_split_ands); go_simp); try with_reducible rfl)
      simp only [Act.put, List.setIfInBounds_toArray, List.set_cons_zero, List.set_cons_succ]
      refine takeH (i := 6) (d := (some 29)) (v := ?v7) rfl rfl (by kernel_rfl) (by kernel_rfl) (by kernel_rfl) (fun _ _ _ h => h) (by rfl) ?hy7 (by assumption) ?_
      case hy7 => ((intro w hSw; (try dsimp only at hSw); (try go_split_ands); go_simp); try with_reducible rfl)
      simp only [Act.put, List.setIfInBounds_toArray, List.set_cons_zero, List.set_cons_succ]
      refine wpAnyH_ready (rs := [7]) (by kernel_rfl) (by simp) ?_
      refine AllReadyH.cons rfl (fun K hK => ?_) AllReadyH.nil
      go_simp
      rw [iw]
      refine (HL2.out _).mono ?_
      rintro e w3 ⟨rfl, u3⟩
      go_wp2_with fail
      refine hK.out _ _ (by obtain ⟨i1, i2, i3, i4, i5⟩ := hHeld; exact ⟨u3.blk i1, u3.blk i2, u3.blk i3, i4.trans u3, cell3_2 (u3.blk i3)⟩) (fun hHeld => ?_)
      clear hK K
      refine wpAnyH_ready (rs := [8]) (by kernel_rfl) (by simp) ?_
      refine AllReadyH.cons rfl (fun K hK => ?_) AllReadyH.nil
      go_simp
      refine (HT2.out _).mono ?_
      rintro e w4 ⟨rfl, u4⟩
      go_wp2_with fail
      refine hK.out _ _ (by obtain ⟨i1, i2, i3, i4, i5⟩ := hHeld; exact ⟨u4.blk i1, u4.blk i2, u4.blk i3, i4.trans u4, cell3_2 (u4.blk i3)⟩) (fun hHeld => ?_)
      clear hK K
      refine takeH (i := 9) (d := (some 22)) (v := ?v10) rfl rfl (by kernel_rfl) (by kernel_rfl) (by kernel_rfl) (fun _ _ _ h => h) (by rfl) ?hy10 (by assumption) ?_
      case hy10 => ((intro w hSw; (try dsimp only at hSw); (try go_split_ands); go_simp); try with_reducible rfl)
      simp only [Act.put, List.setIfInBounds_toArray, List.set_cons_zero, List.set_cons_succ]
      refine takeH (i := 10) (d := (some 32)) (v := ?v11) rfl rfl (by kernel_rfl) (by kernel_rfl) (by kernel_rfl) (fun _ _ _ h => h) (by rfl) ?hy11 (by assumption) ?_
      case hy11 => ((intro w hSw; (try dsimp only at hSw); (try go_split_ands); go_simp); try with_reducible rfl)
      simp only [Act.put, List.setIfInBounds_toArray, List.set_cons_zero, List.set_cons_succ]
      refine takeH (i := 11) (d := (some 33)) (v := ?v12) rfl rfl (by kernel_rfl) (by kernel_rfl) (by kernel_rfl) (fun _ _ _ h => h) (by rfl) ?hy12 (by assumption) ?_
      case hy12 => ((intro w hSw; (try dsimp only at hSw); (try go_split_ands); go_simp); try with_reducible rfl)
      simp only [Act.put, List.setIfInBounds_toArray, List.set_cons_zero, List.set_cons_succ]
      refine takeH (i := 12) (d := (some 8)) (v := ?v13) rfl rfl (by kernel_rfl) (by kernel_rfl) (by kernel_rfl) (fun _ _ _ h => h) (by rfl) ?hy13 (by assumption) ?_
      case hy13 => ((intro w hSw; (try dsimp only at hSw); (try go_split_ands); go_simp); try with_reducible rfl)
      simp only [Act.put, List.setIfInBounds_toArray, List.set_cons_zero, List.set_cons_succ]
      refine takeH (i := 13) (d := (some 9)) (v := ?v14) rfl rfl (by kernel_rfl) (by kernel_rfl) (by kernel_rfl) (fun _ _ _ h => h) (by rfl) ?hy14 (by assumption) ?_
      case hy14 => ((intro w hSw; (try dsimp only at hSw); (try go_split_ands); go_simp); try with_reducible rfl)
      simp only [Act.put, List.setIfInBounds_toArray, List.set_cons_zero, List.set_cons_succ]
      refine wpAnyH_done (by kernel_rfl) ?_ _
      obtain ⟨i1, i2, i3, i4, i5⟩ := hHeld
      have V3 := V1.trans i4
      have hown3 := own_up hown i4
      have l1 := blk_lt i1
      have HI := HD.out
      have HJ := HH.out
      generalize tv (wrap64 (-x2)) = T1 at *
      generalize ok (wrap64 (-x2)) = o1 at *
      clear HD HH HL2 HT2 HLL HTT u3 u4 i1 i2 hown V1 i4 i5
      cases o1
      · have e3 : Hid (D.hits tv ok X (k + 1) = D.hits tv ok X k) := by unfold Hid; rw [HJ, HI]; simp
        clear HI HJ
        go_wp2
        go_roundw
        case rel => exact ⟨k + 1, by omega, by go_num, by rw [e3.out]; exact hown3, V3, by rw [e3.out]; exact hnil⟩
        case measure => simp [intOf]; omega
      · have fp := cellB i3
        go_wp2_with fail
        refine (has_any _ _ _ _ _).mono ?_
        rintro e w5 ⟨rfl, u5⟩
        have hown5 := own_up hown3 u5
        have V5 := V3.trans u5
        clear hown3 V3 u5 i3 fp
        rw [Bool.true_and] at HI
        generalize inB T1 x0 (wrap64 (x1 - 1)) = o2 at *
        cases o2
        · have e3 : Hid (D.hits tv ok X (k + 1) = D.hits tv ok X k) := by unfold Hid; rw [HJ, HI]; simp
          clear HI HJ
          go_wp2
          go_roundw
          case rel => exact ⟨k + 1, by omega, by go_num, by rw [e3.out]; exact hown5, V5, by rw [e3.out]; exact hnil⟩
          case measure => simp [intOf]; omega
        · have e3 : Hid (D.hits tv ok X (k + 1) = D.hits tv ok X k ++ [T1]) := by unfold Hid; rw [HJ, HI]; simp
          clear HI HJ
          have gz := V5.size
          go_wp2_with (at_builtin; go_loud (refine wpList_append_own _ rfl (.tmp 40) (.tmp 42) 45 rfl w2.heap.size 3 i0 (.int .i64 0) 1 8 Try.underlying45 hi hz0 hz1 hz2 rfl (by decide) _ (D.hits tv ok X k).length _ rfl (hown5.alloc _) ⟨w5.heap.size, 0, none⟩ 1 1 [.int .i64 T1] rfl rfl (cell_one_at _ _ _ _ (by simp)) (by simp [Value.oneCell']) (by unfold maxLen; omega) (by omega) (by simp; omega) ?_; intro v' w6 hown6 hgrow6 hv6))
          have V6 := (V5.alloc _).grown hgrow6 (fun j hj => by have := own_block hown5 hj; omega)
          clear hgrow6 hown5 V5
          go_wp2
          go_roundw
          case rel => exact ⟨k + 1, by omega, by go_num, by rw [e3.out, List.length_append, List.map_append]; exact hown6, V6, by rw [e3.out]; simp⟩
          case measure => simp [intOf]; omega
    · obtain rfl : k = np := by omega
      have hle := D.hits_len tv ok X k
      have U3 := U2.trans V1
      have z3 := U2.size
      rcases Joins.ownsRow_forms hown with ⟨rfl, h0⟩ | ⟨g', cap', rfl⟩
      · go_wp2
        go_ret
        exact ⟨_, rfl, U3, .inl ⟨List.length_eq_zero_iff.1 h0, rfl⟩⟩
      · have hg0 := own_block hown (k := g') rfl
        have hgz := (hown.lt g' rfl).2
        have hcap : (D.hits tv ok X k).length ≤ cap' := by
          obtain ⟨_, ⟨h, _⟩ | ⟨_, _, _, h, _, _, hc, _⟩⟩ := hown
          · cases h
          · cases h; exact hc
        go_wp2
        go_ret
        exact ⟨_, rfl, U3, .inr ⟨g', rfl, by omega, hgz, fun j hj => hown.cellAt j (by omega)⟩⟩

end Go.Proofs.Ytghelfbigbdkkaa

/- The contracts of dial's tick, whole, and of ticks for a valid town. -/
namespace Go.Proofs.Ytghelfbigbdkkaa
open Go.RowKit

theorem tick_all {cs : Array Value} {h m s : Int} {n : Nat} {x : Nat → Int} (V : CalV cs h m s n x) (a b c q : Int) (w : World) :
    Calls Try.prog 26 #[.agg cs, rd a b c q] w fun e w' => e = .returned (.tuple #[.int .i64 (if D.isRd h m s n x a b c q = true then D.tk h m s x a b c q else 0), .bool (D.isRd h m s n x a b c q)]) ∧ Up w w' := by
  cases hr : D.isRd h m s n x a b c q
  · have d1 := V.d1
    have d2 := V.d2
    simpa using tick_no V.cal a b c q w V.h1 V.h2 V.m1 V.m2 V.s1 V.s2 (by omega) (by omega) hr
  · obtain ⟨a0, a1, b1, b2, c1, c2, q1, q2, _⟩ := D.isRd_bd V.h1 V.h2 V.m1 V.m2 V.s1 V.s2 hr
    obtain ⟨k, rfl⟩ : ∃ k : Nat, a = k := ⟨a.toNat, by omega⟩
    have g2 := V.h2
    have g3 := V.m2
    have := tick_yes (w := w) V.cal b c q V.h1 V.h2 V.m1 V.m2 V.s1 V.s2 V.d1 V.d2 (by omega) b1 (by omega) c1 (by omega) q1 (by omega) hr
    simpa [D.tk] using this

/-- the ticks of a local reading in a town -/
def D.ticksV (h m s : Int) (n : Nat) (x : Nat → Int) (ah : Int) (M : List (Int × Int)) (a b c q : Int) : List Int :=
  if D.divd h m a b c = true then
    D.hits (fun k => if D.isRd h m s n x (D.lmin h m a b c k / (h * m)) (D.lmin h m a b c k % (h * m) / m) (D.lmin h m a b c k % (h * m) % m) q = true then D.tk h m s x (D.lmin h m a b c k / (h * m)) (D.lmin h m a b c k % (h * m) / m) (D.lmin h m a b c k % (h * m) % m) q else 0)
      (fun k => D.isRd h m s n x (D.lmin h m a b c k / (h * m)) (D.lmin h m a b c k % (h * m) / m) (D.lmin h m a b c k % (h * m) % m) q)
      (fun j => (D.pers (wrap64 (D.tot (D.lens h m s x n))) 0 ah M).getD j 0) (M.length + 1)
  else []

/-- a new slice that holds these numbers; nil if there are none -/
def D.newInts (w w' : World) (v : Value) (xs : List Int) : Prop :=
  (xs = [] ∧ v = .slice none 0 0) ∨ ∃ g, v = .slice (some ⟨g, 0, none⟩) xs.length xs.length ∧ w.heap.size ≤ g ∧ g < w'.heap.size ∧ ∀ j, j < xs.length → w'.cell? ⟨g, j, none⟩ = (xs.map (Value.int .i64))[j]?

theorem ticks_any {ts cs : Array Value} {h m s : Int} {n : Nat} {x : Nat → Int} (V : CalV cs h m s n x) {ah : Int} {a' : Option Addr} {n' c' : Nat} (T : Town ts cs ah a' n' c') {M : List (Int × Int)} {w : World} (B : TownArg w a' n' c' M) (n6 : n' ≤ 6) (a b c q : Int) :
    Calls Try.prog 32 #[.agg ts, rd a b c q] w fun e w' => ∃ v, e = .returned v ∧ Up w w' ∧ D.newInts w w' v (D.ticksV h m s n x ah M a b c q) := by
  have KD := fun w => isDivided_any V.cal a b c q w V.h1 V.h2 V.m1 V.m2
  cases hd : D.divd h m a b c
  · rw [hd] at KD
    refine (ticks_nil T.sz T.cal a b c q w KD).mono ?_
    rintro e w' ⟨rfl, u⟩
    exact ⟨_, rfl, u, .inl ⟨by simp [D.ticksV, hd], rfl⟩⟩
  · rw [hd] at KD
    have hl := B.len
    have K := ticks_list T.sz T.cal a b c q w (n' + 1) (by omega) (fun j => (D.pers (wrap64 (D.tot (D.lens h m s x n))) 0 ah M).getD j 0) _ _ _ _ _ KD
      (fun w0 u0 => (periods_any T (fun w => total_any V.cal w V.h1 V.h2 V.m1 V.m2 V.s1 V.s2 V.d2) (B.up u0) n6).mono (by
        rintro e w' ⟨g, cap, rfl, u, g1, g2, hc⟩
        refine ⟨g, cap, rfl, u, g1, g2, fun j hj => ?_⟩
        rw [hc j hj, List.getElem?_map, List.getD_eq_getElem?_getD, List.getElem?_eq_getElem (by rw [D.pers_len]; omega)]
        rfl))
      (fun k w => local_any V.cal T a b c q k w V.h1 V.h2 V.m1 V.m2)
      (fun k w => tick_all V _ _ _ q w)
    refine K.mono ?_
    rintro e w' ⟨v, rfl, u, hv⟩
    refine ⟨v, rfl, u, ?_⟩
    unfold D.newInts D.ticksV
    rw [if_pos hd, ← hl]
    exact hv

end Go.Proofs.Ytghelfbigbdkkaa

/- The contracts of dial's Ticks. -/
namespace Go.Proofs.Ytghelfbigbdkkaa
open Go.RowKit

theorem D.newInts.from {w w1 w' : World} {v : Value} {xs : List Int} (h : D.newInts w1 w' v xs) (u : Up w w1) : D.newInts w w' v xs := by
  rcases h with h | ⟨g, e, g1, g2, hc⟩
  · exact .inl h
  · exact .inr ⟨g, e, Nat.le_trans u.size g1, g2, hc⟩

set_option maxRecDepth 100000 in
set_option maxHeartbeats 2000000 in
theorem Ticks_no {h m s d : Int} {a : Option Addr} {n c : Nat} {L : List (Int × Bool)} {ah : Int} {a' : Option Addr} {n' c' : Nat} {M : List (Int × Int)} {w : World} (A : CalArg w a n c L) (B : TownArg w a' n' c' M) (p0 p1 p2 p3 : Int) (he : ¬ D.townE h m s d L ah M = 0) :
    Calls Try.prog 13 #[.agg #[.int .i64 h, .int .i64 m, .int .i64 s, .int .i64 d, .slice a n c], .agg #[.int .i64 ah, .slice a' n' c'], rd p0 p1 p2 p3] w fun e w' => e = .returned (.tuple #[.slice none 0 0, .int .i64 (D.townE h m s d L ah M)]) ∧ Up w w' := by
  obtain ⟨ts, ho, K⟩ := newTown_e (ah := ah) (d := d) (h := h) (m := m) (s := s) (c := c) (c' := c') (A.up (((Up.refl w).alloc (.cells #[.int .i64 h, .int .i64 m, .int .i64 s, .int .i64 d, .slice a n c] 24)).alloc (.cells #[.int .i64 ah, .slice a' n' c'] 44) |>.alloc (.cells #[.int .i64 p0, .int .i64 p1, .int .i64 p2, .int .i64 p3] 34))) (B.up (((Up.refl w).alloc (.cells #[.int .i64 h, .int .i64 m, .int .i64 s, .int .i64 d, .slice a n c] 24)).alloc (.cells #[.int .i64 ah, .slice a' n' c'] 44) |>.alloc (.cells #[.int .i64 p0, .int .i64 p1, .int .i64 p2, .int .i64 p3] 34)))
  have HK := Lib.hid K
  generalize D.townE h m s d L ah M = E at *
  have hE : (E != 0) = true := by simp [he]
  clear K he
  go_enter Try.func13, Try.ntmps13
  go_wp2_with fail
  refine HK.out.mono ?_
  rintro e w1 ⟨rfl, u1⟩
  have U1 := ((((Up.refl w).alloc _).alloc _).alloc _).trans u1
  clear u1
  go_wp2
  go_ret2
  exact ⟨rfl, U1.alloc _⟩

set_option maxRecDepth 100000 in
set_option maxHeartbeats 2000000 in
theorem Ticks_yes {h m s d : Int} {a : Option Addr} {n c : Nat} {L : List (Int × Bool)} {ah : Int} {a' : Option Addr} {n' c' : Nat} {M : List (Int × Int)} {w : World} (A : CalArg w a n c L) (B : TownArg w a' n' c' M) (p0 p1 p2 p3 : Int) (hv : D.valid h m s d L = true) (ht : D.townOk (D.beg h m s (D.deeds L L.length) d.toNat) ah M = true) :
    Calls Try.prog 13 #[.agg #[.int .i64 h, .int .i64 m, .int .i64 s, .int .i64 d, .slice a n c], .agg #[.int .i64 ah, .slice a' n' c'], rd p0 p1 p2 p3] w fun e w' => ∃ v, e = .returned (.tuple #[v, .int .i64 0]) ∧ Up w w' ∧ D.newInts w w' v (D.ticksV h m s d.toNat (D.deeds L L.length) ah M p0 p1 p2 p3) := by
  obtain ⟨cs, N, rfl, V, K⟩ := newTown_ok (A.up (((Up.refl w).alloc (.cells #[.int .i64 h, .int .i64 m, .int .i64 s, .int .i64 d, .slice a n c] 24)).alloc (.cells #[.int .i64 ah, .slice a' n' c'] 44) |>.alloc (.cells #[.int .i64 p0, .int .i64 p1, .int .i64 p2, .int .i64 p3] 34))) (B.up (((Up.refl w).alloc (.cells #[.int .i64 h, .int .i64 m, .int .i64 s, .int .i64 d, .slice a n c] 24)).alloc (.cells #[.int .i64 ah, .slice a' n' c'] 44) |>.alloc (.cells #[.int .i64 p0, .int .i64 p1, .int .i64 p2, .int .i64 p3] 34))) hv ht
  have HK := Lib.hid K
  have T := Town.is cs V.cal.size ah a' n' c'
  have ho := twn_ok V ah a' n' c'
  have n6 : n' ≤ 6 := by
    have hl := B.len
    simp only [D.townOk, Bool.and_eq_true, decide_eq_true_eq] at ht
    omega
  rw [Int.toNat_natCast]
  have HT := Lib.hid (fun w' (u : Up w w') => ticks_any V T (B.up u) n6 p0 p1 p2 p3)
  generalize twn cs ah a' n' c' = ts at *
  have hz := Lib.hid T.sz
  have hT := T.cal
  clear K hv ht T
  go_enter Try.func13, Try.ntmps13
  go_wp2_with fail
  refine HK.out.mono ?_
  rintro e w1 ⟨rfl, u1⟩
  have y2 := u1.blk (b := w.heap.size + 1 + 1) (o := (.cells #[.int .i64 p0, .int .i64 p1, .int .i64 p2, .int .i64 p3] 34)) (by rw [blk_new _ _ _ (by simp)])
  have U1 := ((((Up.refl w).alloc _).alloc _).alloc _).trans u1
  have l2 := blk_lt y2
  clear u1
  go_wp2_with fail
  refine (HT.out _ (U1.alloc _)).mono ?_
  rintro e w2 ⟨v, rfl, u2, hn⟩
  have U2 := (U1.alloc _).trans u2
  have HN := Lib.hid (hn.from (U1.alloc _))
  clear u2 hn y2 l2 HT HK
  go_wp2
  go_ret2
  exact ⟨_, rfl, U2, HN.out⟩

end Go.Proofs.Ytghelfbigbdkkaa
