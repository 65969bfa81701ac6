import Derived.Test.YtcadpdbadgejfaaAdj
/- The contract of the iterator of adjustments. -/
namespace Go.Proofs.Ytcadpdbadgejfaa
open Go.RowKit Go.Shelf
attribute [local go_sem] Oper.semAt_some

theorem Ints.kx {w w' : World} {v : Value} {xs : List Int} {sb : Nat} {a : Option Addr} {n c : Nat} {t : TypeId} {fr : Nat × Nat} (I : Ints w v xs) (hb : mblk w sb = some (.cells #[.slice a n c] t fr)) (k : S.Kx sb w.heap.size w w') : Ints w' v xs := by
  obtain ⟨a', c', rfl, hc, hl, hm⟩ := I.is
  refine ⟨a', c', rfl, hc, hl, fun h0 => ?_⟩
  obtain ⟨g, off, rfl, gl, hx⟩ := hm h0
  have hne : g ≠ sb := fun e => by
    have q := hx 0 h0
    rw [e, cellB hb] at q
    cases hk : off + 0 with
    | zero => rw [hk] at q; cases q
    | succ k => rw [hk] at q; simp at q
  have hx' := fun j hj => (cell_blk (k g gl hne) (off + j)).trans (hx j hj)
  exact ⟨g, off, rfl, World.block_lt_of_cell? _ _ (hx' 0 h0), hx'⟩
/-- the sign of a direction -/
def S.sign (p : Int) : Int := if p = 0 then -1 else if p = 2 then 1 else 0
theorem S.dir_at {p : Int} (hp : p = 0 ∨ p = 1 ∨ p = 2) : ∃ fv : Value, (∀ w, (Instr.index 127 DV (.int .i64 p)).run Try.prog w = .ok (.agg #[.int .i64 (S.sign p), fv]) w) ∧ ∀ w, (Instr.field 126 (.agg #[.int .i64 (S.sign p), fv]) 0).run Try.prog w = .ok (.int .i64 (S.sign p)) w := by
  rcases hp with rfl | rfl | rfl
  · exact ⟨.func (.func 101) #[] #[], fun _ => by kernel_rfl, fun _ => by kernel_rfl⟩
  · exact ⟨.func (.func 102) #[] #[], fun _ => by kernel_rfl, fun _ => by kernel_rfl⟩
  · exact ⟨.func (.func 103) #[] #[], fun _ => by kernel_rfl, fun _ => by kernel_rfl⟩
theorem S.two_ways (P1 P2 P3 : World → Prop) (e : Ending) (Y : World) (h : (e = .returned (.bool true) ∧ P1 Y ∧ P2 Y) ∨ (e = .returned (.bool false) ∧ P3 Y)) : ∃ b : Bool, e = .returned (.bool b) ∧ Hid ((b = true → P1 Y ∧ P2 Y) ∧ (b = false → P3 Y)) := by
  rcases h with ⟨rfl, h1, h2⟩ | ⟨rfl, h1⟩
  · exact ⟨true, rfl, fun _ => ⟨h1, h2⟩, fun e => by cases e⟩
  · exact ⟨false, rfl, fun e => (by cases e), fun _ => h1⟩
/-- all blocks below a number are kept, but one, and no block goes -/
def S.Ky (sb n₀ : Nat) (A B : World) : Prop := S.Kx sb n₀ A B ∧ A.heap.size ≤ B.heap.size
theorem S.ky_t {sb n₀ : Nat} {A B C : World} (h : S.Ky sb n₀ A B) (k : S.Ky sb n₀ B C) : S.Ky sb n₀ A C := ⟨S.kx_t h.1 k.1, Nat.le_trans h.2 k.2⟩
theorem S.ky_b {sb n₀ : Nat} {w : World} (hn : n₀ ≤ w.heap.size) (W : World) (l : Nat) (o o' : Obj) (hl : w.heap.size ≤ l) (h1 : W.heap[l]? = some o) (h2 : o.isCells = false) (h3 : o.isWalk = false) : S.Ky sb n₀ W (W.putObj l o') :=
  ⟨S.kx_b hn W l o o' hl h1 h2 h3, by simp⟩
theorem S.ky_of {sb n₀ : Nat} {A B : World} (h : Below n₀ A B) : S.Ky sb n₀ A B := ⟨S.kx_of h, h.size⟩
/-- an end that is normal, and of which something is said -/
def S.Nrm (R : Act → World → Prop) : Exit → Act → World → Prop
  | .normal, a, w => R a w
  | _, _, _ => False
theorem S.nrm_intro {R : Act → World → Prop} {a : Act} {w : World} (h : R a w) : S.Nrm R .normal a w := h
theorem S.two_fin {J Jx : World → Prop} {sb n₀ : Nat} {w w3 Y : World} {b : Bool} (V3 : S.Ky sb n₀ w w3) (h : Hid ((b = true → J Y ∧ S.Ky sb n₀ w3 Y) ∧ (b = false → Jx Y))) : Hid ((b = true → J Y ∧ S.Ky sb n₀ w Y) ∧ (b = false → Jx Y)) :=
  ⟨fun e => ⟨(h.1 e).1, S.ky_t V3 (h.1 e).2⟩, h.2⟩
theorem S.list_get (f : Nat → Int) {k i : Nat} (h : i < k) : (S.list f k 0).getD i 0 = f i := by
  rw [S.list_is, List.getD_eq_getElem?_getD, List.getElem?_map, List.getElem?_range h]
  simp

set_option maxRecDepth 100000 in
set_option maxHeartbeats 4000000 in
theorem adj1_in {A : Nat → Int} (hA : ∀ x, 0 ≤ A x ∧ A x ≤ 500) {p far : Int} (hp : p = 0 ∨ p = 1 ∨ p = 2) {L : Nat} (hL : L ≤ 500) {T : Nat} (hT : T ≤ 200) {c : Int} (hc : far - S.sm (S.lo A L) T = c) (c0 : 0 ≤ c) (far2 : far ≤ 20000) {m n : Nat} (hn : 1 ≤ n) {l sb b1 b2 b3 b4 : Nat} {a1 a2 : Option Addr} {d1 d2 : Nat} {w : World}
    (k1 : mblk w b1 = some (.cells #[.map (some m), .int .i64 p, .int .i64 far] 89 (0, 0))) (k3 : mblk w b3 = some (.cells #[.int .i64 T] 3 (0, 0))) (k2 : mblk w b2 = some (.cells #[.slice a1 T d1] 26 (0, 0))) (k4 : mblk w b4 = some (.cells #[.slice a2 T d2] 26 (0, 0)))
    (I1 : Ints w (.slice a1 T d1) (S.list (S.lo A L) T 0)) (I2 : Ints w (.slice a2 T d2) (S.list (S.lo A ((L : Int) + 1)) T 0)) {x0 : Option Addr} {x1 x2 : Nat} (kb : mblk w sb = some (.cells #[.slice x0 x1 x2] 26 (0, 0))) (hne : b1 ≠ sb ∧ b2 ≠ sb ∧ b3 ≠ sb ∧ b4 ≠ sb)
    (J Jx : List Nat → World → Prop) (W : World) (hW : S.Ky sb w.heap.size w W)
    (hJ : ∀ s X Y, J s X → Up X Y → J s Y)
    (hY : ∀ pre x X, J pre X → pre.length < T → YieldAt Fence.wide (n - 1) Try.prog l #[.int .i64 (S.sign p * S.bit A L c x)] X fun e Y =>
      (e = .returned (.bool true) ∧ J (pre ++ [x]) Y ∧ S.Ky sb w.heap.size X Y) ∨ (e = .returned (.bool false) ∧ Jx (pre ++ [x]) Y))
    (h0 : J [] W) :
    CallsIn Fence.wide n Try.prog 100 #[.func (.yield l) #[] #[], .pointer (some ⟨b1, 0, none⟩), .pointer (some ⟨b2, 0, none⟩), .pointer (some ⟨b3, 0, none⟩), .pointer (some ⟨b4, 0, none⟩)] W fun e Y => (∃ v, e = .returned v) ∧
      ((∃ xs, xs = List.range T ∧ J xs Y) ∨ (∃ pre, pre <+: List.range T ∧ Jx pre Y)) := by
  obtain ⟨n1, n2, n3, n4⟩ := hne
  have HB := Lib.hid (fun Y (k : S.Ky sb w.heap.size w Y) => show mblk Y b1 = some (.cells #[.map (some m), .int .i64 p, .int .i64 far] 89 (0, 0)) ∧ mblk Y b2 = some (.cells #[.slice a1 T d1] 26 (0, 0)) ∧ mblk Y b3 = some (.cells #[.int .i64 T] 3 (0, 0)) ∧ mblk Y b4 = some (.cells #[.slice a2 T d2] 26 (0, 0)) from ⟨(k.1 _ (blk_lt k1) n1).trans k1, (k.1 _ (blk_lt k2) n2).trans k2, (k.1 _ (blk_lt k3) n3).trans k3, (k.1 _ (blk_lt k4) n4).trans k4⟩)
  have HI1 := Lib.hid (fun Y (k : S.Ky sb w.heap.size w Y) => I1.kx kb k.1)
  have HI2 := Lib.hid (fun Y (k : S.Ky sb w.heap.size w Y) => I2.kx kb k.1)
  have HUK := Lib.hid (fun X Y (k : S.Ky sb w.heap.size w X) (u : Up X Y) => show S.Ky sb w.heap.size w Y from S.ky_t k (S.ky_of (Below.mono u k.2)))
  obtain ⟨e1, s1, s2⟩ := S.sum_lo hA (L : Int) (by omega) hT
  have hl := fun i => S.left_is (A := A) (L := (L : Int)) c0 i
  have hlb := fun i => S.lo_bd (A := A) (L : Int) i
  have hleft : ∀ i, 0 ≤ S.left A L c i ∧ S.left A L c i ≤ 20000 := fun i => by
    have h1 := hl i
    have h2 : S.sm (S.lo A L) i ≤ S.sm (S.lo A ((L : Int) + 1)) i := S.sm_le i (fun j _ => by have := hlb j; omega)
    omega
  obtain ⟨fv, hix, hfd⟩ := S.dir_at hp
  have hsg : -1 ≤ S.sign p ∧ S.sign p ≤ 1 := by unfold S.sign; split <;> (try split) <;> omega
  have HLft := Lib.hid hleft
  have HLb := Lib.hid hlb
  have HA := Lib.hid hA
  have HE := Lib.hid e1
  have HJ := Lib.hid hJ
  have HY := Lib.hid hY
  have HC := Lib.hid hc
  have ew : IntKind.i64.wrap (far - S.sm (S.lo A L) T) = c := by rw [IntWalk.i64_in _ (by omega)]; exact hc
  generalize S.sign p = sg at *
  clear hc hl hlb hleft hA e1 hJ hY k1 k2 k3 k4 I1 I2 kb hp
  refine callsIn_of_wp Try.func100 rfl trivial ?_ rfl
  simp only [Try.ntmps100, List.size_toArray, List.length_cons, List.length_nil, Nat.reduceAdd, Nat.reduceSub, Array.replicate_succ, Array.replicate_zero, List.push_toArray, List.append_toArray, List.nil_append, List.cons_append]
  gi_wp2_with fail
  refine wpIn_wide.2 ?_
  refine wp_region_noPanic ?_
  obtain ⟨q1, q2, q3, q4⟩ := HB.out W hW
  refine wp_region_held_drew (S := fun w' => (S.Ky sb w.heap.size w w' ∧ J [] w') ∧ mblk w' b1 = some (.cells #[.map (some m), .int .i64 p, .int .i64 far] 89 (0, 0)) ∧ mblk w' b2 = some (.cells #[.slice a1 T d1] 26 (0, 0))) (by kernel_rfl) ⟨⟨HUK.out _ _ hW (Up.refl W).drew, HJ.out _ _ _ h0 (Up.refl W).drew⟩, by rw [blk_drew]; exact q1, by rw [blk_drew]; exact q2⟩ (fun hHeld => ?_)
  clear q1 q2 q3 q4 hW h0
  refine takeH (i := 0) (d := (some 9)) (v := ?v1) rfl rfl (by kernel_rfl) (by kernel_rfl) (by kernel_rfl) (fun _ _ _ h => h) (by rfl) ?hy1 (by assumption) ?_
  case hy1 => ((intro w hSw; (try dsimp only at hSw); (try go_split_ands); go_simp); try with_reducible rfl)
  simp only [Act.put, List.setIfInBounds_toArray, List.set_cons_zero, List.set_cons_succ]
  refine takeH (i := 2) (d := (some 11)) (v := ?v2) rfl rfl (by kernel_rfl) (by kernel_rfl) (by kernel_rfl) (fun _ _ _ h => h) (by rfl) ?hy2 (by assumption) ?_
  case hy2 => ((intro w hSw; (try dsimp only at hSw); (try go_split_ands); go_simp); try with_reducible rfl)
  simp only [Act.put, List.setIfInBounds_toArray, List.set_cons_zero, List.set_cons_succ]
  refine takeH (i := 1) (d := (some 10)) (v := ?v3) rfl rfl (by kernel_rfl) (by kernel_rfl) (by kernel_rfl) (fun _ _ _ h => h) (by rfl) ?hy3 (by assumption) ?_
  case hy3 => ((intro w hSw; (try dsimp only at hSw); (try go_split_ands); go_simp); try with_reducible rfl)
  simp only [Act.put, List.setIfInBounds_toArray, List.set_cons_zero, List.set_cons_succ]
  refine wpAnyH_ready (rs := [3]) (by kernel_rfl) (by simp) ?_
  refine AllReadyH.cons rfl (fun K hK => ?_) AllReadyH.nil
  go_simp
  have KS := Lib.hid (sum_any (HI1.out _ hHeld.1.1))
  rw [HE.out] at KS
  refine KS.out.mono ?_
  rintro e w1 ⟨rfl, rfl⟩
  go_wp2_with fail
  refine hK.out _ _ hHeld (fun hHeld => ?_)
  clear hK K KS
  refine takeH (i := 4) (d := (some 13)) (v := ?v5) rfl rfl (by kernel_rfl) (by kernel_rfl) (by kernel_rfl) (fun _ _ _ h => h) (by rfl) ?hy5 (by assumption) ?_
  case hy5 => ((intro w hSw; (try dsimp only at hSw); (try go_split_ands); go_simp); try with_reducible rfl)
  simp only [Act.put, List.setIfInBounds_toArray, List.set_cons_zero, List.set_cons_succ]
  refine takeH (i := 5) (d := (some 6)) (v := ?v6) rfl rfl (by kernel_rfl) (by kernel_rfl) (by kernel_rfl) (fun _ _ _ h => h) (by rfl) ?hy6 (by assumption) ?_
  case hy6 => ((intro w hSw; (try dsimp only at hSw); (try go_split_ands); go_simp); try with_reducible rfl)
  simp only [Act.put, List.setIfInBounds_toArray, List.set_cons_zero, List.set_cons_succ]
  refine wpAnyH_done (by kernel_rfl) ?_ _
  refine NoPanic.normal ?_
  have V0 := hHeld.1.1
  have J0 := hHeld.1.2
  clear hHeld
  obtain ⟨W1, hW1⟩ : ∃ W1, W.drew = W1 := ⟨_, rfl⟩
  rw [hW1] at V0 J0 ⊢
  obtain ⟨_, _, q3, _⟩ := HB.out W1 V0
  clear ew hW1 HC HE s1 s2
  gi_wp2_with fail
  gi_loopw [6, 15] (fun lv t wr => ∃ k : Nat, k ≤ T ∧ t = .int .i64 k ∧ lv = .int .i64 (S.left A L c k) ∧ J (List.range k) wr ∧ S.Ky sb w.heap.size w wr) (fun _ t _ => T - (intOf t).toNat)
  case atStart => exact ⟨0, Nat.zero_le _, rfl, rfl, J0, V0⟩
  case round =>
    clear J0 V0 q3
    obtain ⟨k, hk, rfl, rfl, hJs, V⟩ := hrel
    by_cases hlt : k < T
    · obtain ⟨q1, q2, q3, q4⟩ := HB.out wr V
      obtain ⟨y1, z1, e1, _, _, m1⟩ := (HI1.out wr V).is
      obtain ⟨y2, z2, e2, _, _, m2⟩ := (HI2.out wr V).is
      rw [S.list_len] at e1 e2 m1 m2
      injection e1 with e1 t1 e1c
      injection e2 with e2 t2 e2c
      subst e1 e2 e1c e2c
      clear t1 t2
      obtain ⟨g1, o1, rfl, l1, h1⟩ := m1 (by omega)
      obtain ⟨g2, o2, rfl, l2, h2⟩ := m2 (by omega)
      have c1 := h1 k hlt
      have c2 := h2 k hlt
      rw [S.list_get _ hlt] at c1 c2
      obtain ⟨b0, b1'⟩ := HLb.out k
      obtain ⟨lf0, lf1⟩ := HLft.out k
      have ha := HA.out k
      have lo1 : 0 ≤ S.lo A L k ∧ S.lo A L k ≤ 500 := by unfold S.lo; omega
      have hbit : Hid (S.bit A L c k = S.lo A L k + min (S.lo A ((L : Int) + 1) k - S.lo A L k) (S.left A L c k)) := rfl
      have hnext : Hid (S.left A L c (k + 1) = S.left A L c k - min (S.lo A ((L : Int) + 1) k - S.lo A L k) (S.left A L c k)) := rfl
      have hYk := HY.out (List.range k) k
      obtain ⟨bt, hbt⟩ : ∃ bt, S.bit A L c k = bt := ⟨_, rfl⟩
      obtain ⟨lo, hlo⟩ : ∃ lo, S.lo A L k = lo := ⟨_, rfl⟩
      obtain ⟨hi, hhi⟩ : ∃ hi, S.lo A ((L : Int) + 1) k = hi := ⟨_, rfl⟩
      obtain ⟨lf, hlf⟩ : ∃ lf, S.left A L c k = lf := ⟨_, rfl⟩
      obtain ⟨nx, hnx⟩ : ∃ nx, S.left A L c (k + 1) = nx := ⟨_, rfl⟩
      rw [hlo, hhi, hlf, hnx] at hnext
      rw [hlo, hhi, hlf, hbt] at hbit
      rw [hlo] at c1 lo1 b0 b1'
      rw [hhi] at c2 b0 b1'
      rw [hlf] at lf0 lf1
      rw [hbt] at hYk
      rw [hlf]
      obtain ⟨mr, hmr⟩ : ∃ mr, min (hi - lo) lf = mr := ⟨_, rfl⟩
      rw [hmr] at hnext hbit
      have mr0 : 0 ≤ mr ∧ mr ≤ 1 ∧ mr ≤ lf := by omega
      have hMn : ∀ (ts : Array TypeId) (t' : TypeId) (w : World), (Builtin.min_ ts t' #[.int .i64 (hi - lo), .int .i64 lf]).run Try.prog w = .ok (.int .i64 mr) w := fun ts t' w => by
        have e : (if lf < hi - lo then lf else hi - lo) = mr := by split <;> omega
        rw [run_min_int2, e]
      have ew1 : IntKind.i64.wrap (hi - lo) = hi - lo := IntWalk.i64_in _ (by omega)
      have HNX := Lib.hid hnx
      clear hbt hlo hhi hlf hnx hmr h1 h2 m1 m2 ha HLb HLft HA
      gi_wp2_with fail
      refine wpIn_wide.2 ?_
      refine wp_region_noPanic ?_
      refine wp_region_held_drew (S := fun w' => (S.Ky sb w.heap.size w w' ∧ J (List.range k) w' ∧ Up wr w') ∧ mblk w' b2 = some (.cells #[.slice (some ⟨g1, o1, none⟩) T d1] 26 (0, 0)) ∧ mblk w' b4 = some (.cells #[.slice (some ⟨g2, o2, none⟩) T d2] 26 (0, 0)) ∧ w'.cell? ⟨g1, o1 + k, none⟩ = some (.int .i64 lo) ∧ w'.cell? ⟨g2, o2 + k, none⟩ = some (.int .i64 hi)) (by kernel_rfl) ⟨⟨HUK.out _ _ V (Up.refl wr).drew, HJ.out _ _ _ hJs (Up.refl wr).drew, (Up.refl wr).drew⟩, by rw [blk_drew]; exact q2, by rw [blk_drew]; exact q4, c1, c2⟩ (fun hHeld => ?_)
      refine takeH (i := 0) (d := (some 18)) (v := ?v7) rfl rfl (by kernel_rfl) (by kernel_rfl) (by kernel_rfl) (fun _ _ _ h => h) (by rfl) ?hy7 (by assumption) ?_
      case hy7 => ((intro w hSw; (try dsimp only at hSw); (try go_split_ands); go_simp); try with_reducible rfl)
      simp only [Act.put, List.setIfInBounds_toArray, List.set_cons_zero, List.set_cons_succ]
      refine takeH (i := 1) (d := (some 19)) (v := ?v8) rfl rfl (by kernel_rfl) (by kernel_rfl) (by kernel_rfl) (fun _ _ _ h => h) (by rfl) ?hy8 (by assumption) ?_
      case hy8 => ((intro w hSw; (try dsimp only at hSw); (try go_split_ands); go_simp); try with_reducible rfl)
      simp only [Act.put, List.setIfInBounds_toArray, List.set_cons_zero, List.set_cons_succ]
      refine takeH (i := 4) (d := (some 22)) (v := ?v9) rfl rfl (by kernel_rfl) (by kernel_rfl) (by kernel_rfl) (fun _ _ _ h => h) (by rfl) ?hy9 (by assumption) ?_
      case hy9 => ((intro w hSw; (try dsimp only at hSw); (try go_split_ands); go_simp); try with_reducible rfl)
      simp only [Act.put, List.setIfInBounds_toArray, List.set_cons_zero, List.set_cons_succ]
      refine takeH (i := 5) (d := (some 23)) (v := ?v10) rfl rfl (by kernel_rfl) (by kernel_rfl) (by kernel_rfl) (fun _ _ _ h => h) (by rfl) ?hy10 (by assumption) ?_
      case hy10 => ((intro w hSw; (try dsimp only at hSw); (try go_split_ands); go_simp); try with_reducible rfl)
      simp only [Act.put, List.setIfInBounds_toArray, List.set_cons_zero, List.set_cons_succ]
      refine takeH (i := 9) (d := (some 27)) (v := ?v11) rfl rfl (by kernel_rfl) (by kernel_rfl) (by kernel_rfl) (fun _ _ _ h => h) (by rfl) ?hy11 (by assumption) ?_
      case hy11 => ((intro w hSw; (try dsimp only at hSw); (try go_split_ands); go_simp); try with_reducible rfl)
      simp only [Act.put, List.setIfInBounds_toArray, List.set_cons_zero, List.set_cons_succ]
      refine takeH (i := 2) (d := (some 20)) (v := ?v12) rfl rfl (by kernel_rfl) (by kernel_rfl) (by kernel_rfl) (fun _ _ _ h => h) (by rfl) ?hy12 (by assumption) ?_
      case hy12 => ((intro w hSw; (try dsimp only at hSw); (try go_split_ands); go_simp); try with_reducible rfl)
      simp only [Act.put, List.setIfInBounds_toArray, List.set_cons_zero, List.set_cons_succ]
      refine takeH (i := 6) (d := (some 24)) (v := ?v13) rfl rfl (by kernel_rfl) (by kernel_rfl) (by kernel_rfl) (fun _ _ _ h => h) (by rfl) ?hy13 (by assumption) ?_
      case hy13 => ((intro w hSw; (try dsimp only at hSw); (try go_split_ands); go_simp); try with_reducible rfl)
      simp only [Act.put, List.setIfInBounds_toArray, List.set_cons_zero, List.set_cons_succ]
      refine takeH (i := 3) (d := (some 21)) (v := ?v14) rfl rfl (by kernel_rfl) (by kernel_rfl) (by kernel_rfl) (fun _ _ _ h => h) (by rfl) ?hy14 (by assumption) ?_
      case hy14 => ((intro w hSw; (try dsimp only at hSw); (try go_split_ands); go_simp); try with_reducible rfl)
      simp only [Act.put, List.setIfInBounds_toArray, List.set_cons_zero, List.set_cons_succ]
      refine takeH (i := 7) (d := (some 25)) (v := ?v15) rfl rfl (by kernel_rfl) (by kernel_rfl) (by kernel_rfl) (fun _ _ _ h => h) (by rfl) ?hy15 (by assumption) ?_
      case hy15 => ((intro w hSw; (try dsimp only at hSw); (try go_split_ands); go_simp); try with_reducible rfl)
      simp only [Act.put, List.setIfInBounds_toArray, List.set_cons_zero, List.set_cons_succ]
      refine takeH (i := 8) (d := (some 26)) (v := ?v16) rfl rfl (by kernel_rfl) (by kernel_rfl) (by kernel_rfl) (fun _ _ _ h => h) (by rfl) ?hy16 (by assumption) ?_
      case hy16 => ((intro w hSw; (try dsimp only at hSw); (try go_split_ands); go_simp); try with_reducible rfl)
      simp only [Act.put, List.setIfInBounds_toArray, List.set_cons_zero, List.set_cons_succ]
      refine takeH (i := 10) (d := (some 28)) (v := .int .i64 mr) rfl rfl (by kernel_rfl) (by kernel_rfl) (by kernel_rfl) (fun _ _ _ h => h) (by rfl) ?hymin (by assumption) ?_
      case hymin => ((intro w hSw; (try dsimp only at hSw); go_simp); try with_reducible rfl)
      simp only [Act.put, List.setIfInBounds_toArray, List.set_cons_zero, List.set_cons_succ]
      refine takeH (i := 11) (d := (some 8)) (v := ?v17) rfl rfl (by kernel_rfl) (by kernel_rfl) (by kernel_rfl) (fun _ _ _ h => h) (by rfl) ?hy17 (by assumption) ?_
      case hy17 => ((intro w hSw; (try dsimp only at hSw); (try go_split_ands); go_simp); try with_reducible rfl)
      simp only [Act.put, List.setIfInBounds_toArray, List.set_cons_zero, List.set_cons_succ]
      refine wpAnyH_done (by kernel_rfl) ?_ _
      refine NoPanic.normal ?_
      have V1 := hHeld.1.1
      have J1 := hHeld.1.2.1
      have r2 := hHeld.2.1
      have c1' := hHeld.2.2.2.1
      clear hHeld
      obtain ⟨W2, hW2⟩ : ∃ W2, wr.drew = W2 := ⟨_, rfl⟩
      rw [hW2] at V1 J1 r2 c1' ⊢
      obtain ⟨r1, _, _, _⟩ := HB.out W2 V1
      clear c1 c2 q1 q2 q3 q4 hMn ew1 V hJs hW2
      have ewa : IntKind.i64.wrap (lo + mr) = bt := by rw [IntWalk.i64_in _ (by omega)]; exact hbit.out.symm
      have bt1 : 0 ≤ bt ∧ bt ≤ 501 := by have := hbit.out; omega
      obtain ⟨vv, hvv⟩ : ∃ vv, sg * bt = vv := ⟨_, rfl⟩
      have ewm : IntKind.i64.wrap (sg * bt) = vv := by
        have h3 : sg = -1 ∨ sg = 0 ∨ sg = 1 := by omega
        rw [← hvv]
        rcases h3 with rfl | rfl | rfl <;> exact IntWalk.i64_in _ (by omega)
      rw [hvv] at hYk
      have HYK := Lib.hid hYk
      have hmx : Try.prog.follows .mixedOrders = true := by kernel_rfl
      have HN := Lib.hid (show lf - mr = nx from hnext.out.symm)
      have nx0 : 0 ≤ nx := by have := hnext.out; omega
      clear hYk hbit hvv hnext
      gi_wp2_with fail
      have f1 := cellB r1
      have f2 := cellB r2
      refine wpIn_mono (Q := S.Nrm fun a' w' => ∃ (b : Bool) (x32 x33 x34 x35 x36 x37 x38 x39 x40 x41 x42 x43 x44 x45 : Value), a' = { tmps := List.toArray ((.func (.yield l) #[] #[] : Value) :: .pointer (some ⟨b1, 0, none⟩) :: .pointer (some ⟨b2, 0, none⟩) :: .pointer (some ⟨b3, 0, none⟩) :: .pointer (some ⟨b4, 0, none⟩) :: undef :: .int .i64 (lf - mr) :: .int .i64 k :: .int .i64 mr :: .pointer (some ⟨b1, 2, none⟩) :: .int .i64 far :: .slice (some ⟨g1, o1, none⟩) T d1 :: .int .i64 (S.sm (S.lo A L) T) :: .int .i64 c :: .int .i64 T :: .int .i64 k :: .bool true :: .int .i64 k :: .slice (some ⟨g2, o2, none⟩) T d2 :: .int .i64 k :: .pointer (some ⟨g2, o2 + k, none⟩) :: .int .i64 hi :: .slice (some ⟨g1, o1, none⟩) T d1 :: .int .i64 k :: .pointer (some ⟨g1, o1 + k, none⟩) :: .int .i64 lo :: .int .i64 (hi - lo) :: .int .i64 lf :: .int .i64 mr :: .int .i64 lf :: .int .i64 mr :: .int .i64 (lf - mr) :: x32 :: x33 :: x34 :: x35 :: x36 :: x37 :: x38 :: x39 :: x40 :: x41 :: x42 :: x43 :: x44 :: x45 :: .bool (!b) :: u47 :: []), defers := [] } ∧ Hid ((b = true → J (List.range k ++ [k]) w' ∧ S.Ky sb w.heap.size w w') ∧ (b = false → Jx (List.range k ++ [k]) w'))) ?_ ?_
      · gi_region_with_o (first
          | (refine ⟨trivial, ?_⟩; gi_at_call 87; refine (callsIn_wide.2 (directions_any _)).mono ?_; rintro e w3 ⟨rfl, u3'⟩; have u3 : Up W2 w3 := ((Up.refl W2).drew).trans u3'; have V3 := HUK.out _ _ V1 u3; have f1' := cellB (u3.blk r1); have f2' := cellB (u3.blk r2); have c1'' := (u3.facts.1 g1 _ (World.block_lt_of_cell? _ _ c1')).trans c1'; have hY3 := HYK.out w3 (HJ.out _ _ _ J1 u3) (by rw [List.length_range]; exact hlt); obtain ⟨fn, tmps, assign, body, hy, hR⟩ := hY3; have hR2 : RoundIn Fence.wide (n - 1) Try.prog l fn tmps assign body w3 (fun e Y => ∃ b : Bool, e = .returned (.bool b) ∧ Hid ((b = true → J (List.range k ++ [k]) Y ∧ S.Ky sb w.heap.size w3 Y) ∧ (b = false → Jx (List.range k ++ [k]) Y))) := hR.mono (S.two_ways (fun Y => J (List.range k ++ [k]) Y) (fun Y => S.Ky sb w.heap.size w3 Y) (fun Y => Jx (List.range k ++ [k]) Y)))
          | (refine hR2.mono ?_; rintro e w4 ⟨b, rfl, hb⟩))
        all_goals refine S.nrm_intro ⟨b, _, _, _, _, _, _, _, _, _, _, _, _, _, _, rfl, S.two_fin V3 hb⟩
      intro e a' w4 h
      obtain rfl : e = .normal := by cases e <;> first | rfl | exact h.elim
      obtain ⟨b, x32, x33, x34, x35, x36, x37, x38, x39, x40, x41, x42, x43, x44, x45, rfl, hb⟩ := h
      cases b
      · have hJx4 := hb.out.2 rfl
        clear hb
        gi_wp2
        refine bodyPost_ret (results_none rfl _ _ _) rfl ?_
        exact ⟨⟨_, rfl⟩, .inr ⟨List.range k ++ [k], by rw [← List.range_succ]; exact range_prefix (by omega), hJx4⟩⟩
      · obtain ⟨hJ4, hk4⟩ := hb.out.1 rfl
        clear hb
        gi_wp2
        go_roundw
        case rel => exact ⟨k + 1, by omega, by go_num, by rw [HNX.out, ← HN.out], by rw [List.range_succ]; exact hJ4, hk4⟩
        case measure => simp [intOf]; omega
    · obtain rfl : k = T := by omega
      gi_wp2
      go_end0
      exact ⟨⟨_, rfl⟩, .inl ⟨_, rfl, hJs⟩⟩

end Go.Proofs.Ytcadpdbadgejfaa
