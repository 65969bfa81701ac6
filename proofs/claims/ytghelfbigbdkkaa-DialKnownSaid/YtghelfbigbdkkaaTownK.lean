import Derived.Test.YtghelfbigbdkkaaTownG
import Derived.Test.YtghelfbigbdkkaaNextA
/- The minutes of ticks: what dial's minutes yields. -/
namespace Go.Proofs.Ytghelfbigbdkkaa
open Go.RowKit

theorem D.rS_bd {h m s : Int} {x : Nat → Int} {n : Nat} {t : Int} (h1 : 1 ≤ h) (m1 : 1 ≤ m) (s1 : 2 ≤ s) (t0 : 0 ≤ t) (t1 : t < D.beg h m s x n) :
    0 ≤ D.rS h m s x n t ∧ D.rS h m s x n t < D.mlen h m s x (D.rA h m s x n t) (D.rB h m s x n t) (D.rC h m s x n t) := by
  obtain ⟨_, a, b⟩ := D.dy_is h m s x t t0 n t1
  rw [D.beg_succ] at b
  have hA : (D.rA h m s x n t).toNat = D.dy h m s x t n := by simp [D.rA]
  have R0 : 0 ≤ D.rR h m s x n t := by unfold D.rR; omega
  have R1 : D.rR h m s x n t < (h * m - 1) * s + D.lastM s (x (D.dy h m s x t n)) := by
    have : D.rR h m s x n t < D.len h m s (x (D.dy h m s x t n)) := by unfold D.rR; omega
    exact this
  have P1 : 1 ≤ h * m := by
    have := Int.mul_le_mul h1 m1 (by omega) (by omega)
    omega
  unfold D.mlen
  rw [hA]
  unfold D.rS D.rB D.rC D.q
  generalize D.rR h m s x n t = R at *
  generalize D.lastM s (x (D.dy h m s x t n)) = lm at *
  have e1 := Int.emod_add_mul_ediv R s
  have e2 := Int.emod_nonneg R (show s ≠ 0 by omega)
  have e3 := Int.emod_lt_of_pos R (show 0 < s by omega)
  have q0 : 0 ≤ R / s := Int.ediv_nonneg R0 (by omega)
  generalize hq : min (R / s) (h * m - 1) = q
  have qn : 0 ≤ q := by omega
  have d1 := Int.emod_add_mul_ediv q m
  have d2 := Int.emod_nonneg q (show m ≠ 0 by omega)
  have d3 := Int.emod_lt_of_pos q (show 0 < m by omega)
  have hqs : q * s ≤ R := by
    have : q * s ≤ R / s * s := Int.mul_le_mul_of_nonneg_right (by omega) (by omega)
    rw [Int.mul_comm (R / s) s] at this
    omega
  have hb : q / m ≤ h - 1 := by
    have : q / m < h := Int.ediv_lt_of_lt_mul (by omega) (by omega)
    omega
  have hb2 : m * (q / m) ≤ m * (h - 1) := Int.mul_le_mul_of_nonneg_left hb (by omega)
  have hb3 : m * (h - 1) = h * m - m := by rw [Int.mul_sub, Int.mul_comm m h]; omega
  refine ⟨by omega, ?_⟩
  by_cases hl : q / m < h - 1 ∨ q % m < m - 1
  · rw [if_pos hl]
    have hlt : q < h * m - 1 := by
      rcases hl with hl | hl
      · have : m * (q / m) ≤ m * (h - 2) := Int.mul_le_mul_of_nonneg_left (by omega) (by omega)
        have e : m * (h - 2) = h * m - m * 2 := by rw [Int.mul_sub, Int.mul_comm m h]
        omega
      · omega
    have e : q = R / s := by omega
    subst e
    rw [Int.mul_comm]
    omega
  · rw [if_neg hl]
    have h3 : m * (h - 1) ≤ m * (q / m) := Int.mul_le_mul_of_nonneg_left (by omega) (by omega)
    have e : q = h * m - 1 := by omega
    rw [e]
    omega

/-- how many ticks from one on are in its minute, before another one -/
def D.step (h m s : Int) (x : Nat → Int) (n : Nat) (u t : Int) : Int := min (D.mlen h m s x (D.rA h m s x n t) (D.rB h m s x n t) (D.rC h m s x n t) - D.rS h m s x n t) (u - t)
theorem D.step_bd {h m s : Int} {x : Nat → Int} {n : Nat} {u t : Int} (h1 : 1 ≤ h) (m1 : 1 ≤ m) (s1 : 2 ≤ s) (s2 : s ≤ 60) (t0 : 0 ≤ t) (tu : t < u) (t1 : t < D.beg h m s x n) :
    1 ≤ D.step h m s x n u t ∧ D.step h m s x n u t ≤ 61 ∧ t + D.step h m s x n u t ≤ u := by
  obtain ⟨a, b⟩ := D.rS_bd h1 m1 s1 t0 t1
  have c := D.mlen_bd h m s x (D.rA h m s x n t) (D.rB h m s x n t) (D.rC h m s x n t) s1 s2
  unfold D.step
  omega
/-- the first ticks of the minutes from one on, before another one, each so far from the next one -/
def D.mins (g : Int → Int) (u : Int) : Nat → Int → List Int
  | 0, _ => []
  | k + 1, t => if t < u then t :: D.mins g u k (t + g t) else []
theorem D.mins_is {g : Int → Int} {u f : Int} (hg : ∀ t, f ≤ t → t < u → 1 ≤ g t ∧ t + g t ≤ u) (k : Nat) (t : Int) (ft : f ≤ t) (tu : t ≤ u) (hk : u - t ≤ k) :
    (D.mins g u k t).getD 0 u = t ∧ ∀ j, j < (D.mins g u k t).length → t ≤ (D.mins g u k t).getD j u ∧ (D.mins g u k t).getD j u < u ∧ (D.mins g u k t).getD (j + 1) u = (D.mins g u k t).getD j u + g ((D.mins g u k t).getD j u) := by
  induction k generalizing t with
  | zero => exact ⟨by simp [D.mins]; omega, fun j hj => by simp [D.mins] at hj⟩
  | succ k ih =>
    unfold D.mins
    by_cases hlt : t < u
    · rw [if_pos hlt]
      obtain ⟨a, b⟩ := hg t ft hlt
      obtain ⟨i1, i2⟩ := ih (t + g t) (by omega) b (by omega)
      refine ⟨rfl, fun j hj => ?_⟩
      match j, hj with
      | 0, hj => exact ⟨Int.le_refl _, hlt, by simpa using i1⟩
      | j + 1, hj =>
        obtain ⟨c1, c2, c3⟩ := i2 j (by simpa using hj)
        simp only [List.getD_cons_succ]
        exact ⟨by omega, c2, c3⟩
    · rw [if_neg hlt]
      exact ⟨by simp; omega, fun j hj => by simp at hj⟩

end Go.Proofs.Ytghelfbigbdkkaa

/- The contracts of dial's minutes: the iterator over the minutes of ticks. -/
namespace Go.Proofs.Ytghelfbigbdkkaa
open Go.RowKit Go.Shelf
attribute [local go_sem] Oper.semAt_some

theorem cell_int {w : World} {b : Nat} {cs : Array Value} (h : mblk w b = some (.cells cs 3 (0, 0))) (j : Nat) : w.cell? ⟨b, j, none⟩ = cs[j]? := cellB h j
attribute [local go_sem] cell_int

theorem minutes_any (cs : Array Value) (f u : Int) (w : World) :
    Calls Try.prog 51 #[.agg cs, .int .i64 f, .int .i64 u] w fun e w' => e = .returned (.func (.func 62) #[] #[.pointer (some ⟨w.heap.size + 1, 0, none⟩), .pointer (some ⟨w.heap.size + 1 + 1, 0, none⟩), .pointer (some ⟨w.heap.size, 0, none⟩)]) ∧
      ((w.alloc (.cells cs 62)).alloc (.cells #[.int .i64 f] 3)).alloc (.cells #[.int .i64 u] 3) = w' := by
  go_enter Try.func51, Try.ntmps51
  go_wp2
  go_ret
  exact ⟨rfl, rfl⟩

/-- what lies between two places is kept -/
def D.Kb (n₁ n₀ : Nat) (X Y : World) : Prop := ∀ b, n₁ ≤ b → b < n₀ → mblk Y b = mblk X b

/-- what the minutes' iterator goes through: where each minute begins, how many ticks it has, its length and the second of its first tick -/
structure D.Way (N : Nat) (f u : Int) (st mn S L : Nat → Int) : Prop where
  first : st 0 = f
  last : ¬ st N < u
  big : u ≤ 1000000
  low : ∀ k, k < N → 0 ≤ st k
  lt : ∀ k, k < N → st k < u
  next : ∀ k, k < N → st (k + 1) = st k + mn k
  pos : ∀ k, k < N → 1 ≤ mn k
  is : ∀ k, k < N → mn k = min (L k - S k) (u - st k)
  sec : ∀ k, k < N → 0 ≤ S k ∧ S k ≤ 100 ∧ 0 ≤ L k ∧ L k ≤ 100

set_option maxRecDepth 100000 in
set_option maxHeartbeats 1000000 in
theorem minutes1_in {cs : Array Value} (hsz : cs.size = 15) (N : Nat) (f u : Int) (st mn A B Z S L : Nat → Int) (hw : D.Way N f u st mn S L)
    (HR : ∀ (k : Nat) (w : World), k < N → Calls Try.prog 25 #[.agg cs, .int .i64 (st k)] w fun e w' => e = .returned (rd (A k) (B k) (Z k) (S k)) ∧ Up w w')
    (HM : ∀ (k : Nat) (w : World), k < N → Calls Try.prog 58 #[.agg cs, rd (A k) (B k) (Z k) (S k)] w fun e w' => e = .returned (.int .i64 (L k)) ∧ Up w w')
    (n : Nat) (hn : 1 ≤ n) (l n₁ n₀ b1 b2 b3 : Nat) (J Jx : List Nat → World → Prop) (W : World) (g2 : b2 < n₀) (g3 : b3 < n₀) (f2 : n₁ ≤ b2) (f3 : n₁ ≤ b3)
    (h1 : mblk W b1 = some (.cells #[.int .i64 f] 3)) (h2 : mblk W b2 = some (.cells #[.int .i64 u] 3)) (h3 : mblk W b3 = some (.cells cs 62))
    (hJ : ∀ s X Y, J s X → Up X Y → J s Y)
    (hY : ∀ pre x X, J pre X → pre.length < N → YieldAt Fence.wide (n - 1) Try.prog l #[rd (A x) (B x) (Z x) (S x), .int .i64 (mn x)] X fun e Y =>
      (e = .returned (.bool true) ∧ J (pre ++ [x]) Y ∧ D.Kb n₁ n₀ X Y) ∨ (e = .returned (.bool false) ∧ Jx (pre ++ [x]) Y))
    (h0 : J [] W) :
    CallsIn Fence.wide n Try.prog 62 #[.func (.yield l) #[] #[], .pointer (some ⟨b1, 0, none⟩), .pointer (some ⟨b2, 0, none⟩), .pointer (some ⟨b3, 0, none⟩)] W fun e Y => (∃ v, e = .returned v) ∧
      ((∃ xs, xs = List.range N ∧ J xs Y) ∨ (∃ pre, pre <+: List.range N ∧ Jx pre Y)) := by
  have hs := Lib.hid hsz
  have HR' := Lib.hid HR
  have HM' := Lib.hid HM
  have HY := Lib.hid hY
  have HJ := Lib.hid hJ
  have HW := Lib.hid hw
  have c1 := cellB h1
  have e0 := hw.first
  clear HR HM hY hJ hsz hw
  refine callsIn_of_wp Try.func62 rfl trivial ?_ rfl
  simp only [Try.ntmps62, List.size_toArray, List.length_cons, List.length_nil, Nat.reduceAdd, Nat.reduceSub, Array.replicate_succ, Array.replicate_zero, List.push_toArray, List.append_toArray, List.nil_append, List.cons_append]
  gi_wp2
  gi_loopw [5] (fun t wr => ∃ k : Nat, k ≤ N ∧ t = .int .i64 (st k) ∧ J (List.range k) wr ∧ mblk wr b2 = some (.cells #[.int .i64 u] 3) ∧ mblk wr b3 = some (.cells cs 62)) (fun t _ => (u - intOf t).toNat)
  case atStart => exact ⟨0, Nat.zero_le _, by rw [e0], h0, h2, h3⟩
  case round =>
    obtain ⟨k, hk, rfl, hJs, k2, k3⟩ := hrel
    have c2 := cellB k2
    by_cases hlt : k < N
    · have t1 := HW.out.lt k hlt
      have t0 := HW.out.low k hlt
      have t2 := HW.out.next k hlt
      have t3 := HW.out.pos k hlt
      have t4 := HW.out.is k hlt
      have t5 := HW.out.sec k hlt
      have tb := HW.out.big
      have TN := Lib.hid t2
      have tm : mn k ≤ 100 := by omega
      have hM : ∀ (ts : Array TypeId) (t' : TypeId) (w : World), (Builtin.min_ ts t' #[.int .i64 (IntKind.i64.wrap (L k - S k)), .int .i64 (IntKind.i64.wrap (u - st k))]).run Try.prog w = .ok (.int .i64 (mn k)) w := fun ts t' w => by
        have e : (if IntKind.i64.wrap (u - st k) < IntKind.i64.wrap (L k - S k) then IntKind.i64.wrap (u - st k) else IntKind.i64.wrap (L k - S k)) = mn k := by
          rw [IntWalk.i64_in (u - st k) (by omega), IntWalk.i64_in _ (by omega), t4]
          split <;> omega
        rw [run_min_int2, e]
      clear t2 t4
      gi_wp2_with fail
      refine ⟨trivial, ?_⟩
      refine (callsIn_wide.2 (HR'.out k _ hlt)).mono ?_
      rintro e w2 ⟨rfl, u2⟩
      have J2 := HJ.out _ _ _ hJs u2
      have y2 := u2.blk k2
      have y3 := u2.blk k3
      clear u2 k2 k3 c2 hJs
      gi_wp2_with fail
      refine wpIn_wide.2 ?_
      refine wp_region_noPanic ?_
      refine wp_region_held_drew (S := fun w' => mblk w' b2 = some (.cells #[.int .i64 u] 3 (0, 0)) ∧ mblk w' b3 = some (.cells cs 62 (0, 0)) ∧ mblk w' w2.heap.size = some (.cells #[.int .i64 (A k), .int .i64 (B k), .int .i64 (Z k), .int .i64 (S k)] 34 (0, 0)) ∧ Up w2 w') (by kernel_rfl) ⟨by rw [blk_drew]; exact blk_keep _ y2, by rw [blk_drew]; exact blk_keep _ y3, by rw [blk_drew]; exact blk_new _ _ _ rfl, ((Up.refl w2).alloc _).drew⟩ (fun hHeld => ?_)
      refine takeH (i := 0) (d := (some 15)) (v := ?v1) rfl rfl (by kernel_rfl) (by kernel_rfl) (by kernel_rfl) (fun _ _ _ h => h) (by rfl) ?hy1 (by assumption) ?_
      case hy1 => ((intro w hSw; (try dsimp only at hSw); (try go_split_ands); go_simp); try with_reducible rfl)
      simp only [Act.put, List.setIfInBounds_toArray, List.set_cons_zero, List.set_cons_succ]
      refine takeH (i := 1) (d := (some 16)) (v := ?v2) rfl rfl (by kernel_rfl) (by kernel_rfl) (by kernel_rfl) (fun _ _ _ h => h) (by rfl) ?hy2 (by assumption) ?_
      case hy2 => ((intro w hSw; (try dsimp only at hSw); (try go_split_ands); go_simp); try with_reducible rfl)
      simp only [Act.put, List.setIfInBounds_toArray, List.set_cons_zero, List.set_cons_succ]
      refine takeH (i := 3) (d := (some 18)) (v := ?v3) rfl rfl (by kernel_rfl) (by kernel_rfl) (by kernel_rfl) (fun _ _ _ h => h) (by rfl) ?hy3 (by assumption) ?_
      case hy3 => ((intro w hSw; (try dsimp only at hSw); (try go_split_ands); go_simp); try with_reducible rfl)
      simp only [Act.put, List.setIfInBounds_toArray, List.set_cons_zero, List.set_cons_succ]
      refine takeH (i := 6) (d := (some 21)) (v := ?v4) rfl rfl (by kernel_rfl) (by kernel_rfl) (by kernel_rfl) (fun _ _ _ h => h) (by rfl) ?hy4 (by assumption) ?_
      case hy4 => ((intro w hSw; (try dsimp only at hSw); (try go_split_ands); go_simp); try with_reducible rfl)
      simp only [Act.put, List.setIfInBounds_toArray, List.set_cons_zero, List.set_cons_succ]
      refine takeH (i := 7) (d := (some 22)) (v := ?v5) rfl rfl (by kernel_rfl) (by kernel_rfl) (by kernel_rfl) (fun _ _ _ h => h) (by rfl) ?hy5 (by assumption) ?_
      case hy5 => ((intro w hSw; (try dsimp only at hSw); (try go_split_ands); go_simp); try with_reducible rfl)
      simp only [Act.put, List.setIfInBounds_toArray, List.set_cons_zero, List.set_cons_succ]
      refine takeH (i := 4) (d := (some 19)) (v := ?v6) rfl rfl (by kernel_rfl) (by kernel_rfl) (by kernel_rfl) (fun _ _ _ h => h) (by rfl) ?hy6 (by assumption) ?_
      case hy6 => ((intro w hSw; (try dsimp only at hSw); (try go_split_ands); go_simp); try with_reducible rfl)
      simp only [Act.put, List.setIfInBounds_toArray, List.set_cons_zero, List.set_cons_succ]
      refine takeH (i := 8) (d := (some 23)) (v := ?v7) rfl rfl (by kernel_rfl) (by kernel_rfl) (by kernel_rfl) (fun _ _ _ h => h) (by rfl) ?hy7 (by assumption) ?_
      case hy7 => ((intro w hSw; (try dsimp only at hSw); (try go_split_ands); go_simp); try with_reducible rfl)
      simp only [Act.put, List.setIfInBounds_toArray, List.set_cons_zero, List.set_cons_succ]
      refine wpAnyH_ready (rs := [2]) (by kernel_rfl) (by simp) ?_
      refine AllReadyH.cons rfl (fun K hK => ?_) AllReadyH.nil
      go_simp
      refine (HM'.out k _ hlt).mono ?_
      rintro e w3 ⟨rfl, u3⟩
      go_wp2_with fail
      refine hK.out _ _ ⟨u3.blk hHeld.1, u3.blk hHeld.2.1, u3.blk hHeld.2.2.1, hHeld.2.2.2.trans u3⟩ (fun hHeld => ?_)
      clear hK K
      refine takeH (i := 5) (d := (some 20)) (v := ?v9) rfl rfl (by kernel_rfl) (by kernel_rfl) (by kernel_rfl) (fun _ _ _ h => h) (by rfl) ?hy9 (by assumption) ?_
      case hy9 => ((intro w hSw; (try dsimp only at hSw); (try go_split_ands); go_simp); try with_reducible rfl)
      simp only [Act.put, List.setIfInBounds_toArray, List.set_cons_zero, List.set_cons_succ]
      refine takeH (i := 9) (d := (some 24)) (v := .int .i64 (mn k)) rfl rfl (by kernel_rfl) (by kernel_rfl) (by kernel_rfl) (fun _ _ _ h => h) (by rfl) ?hymin (by assumption) ?_
      case hymin => ((intro w hSw; (try dsimp only at hSw); go_simp); try with_reducible rfl)
      simp only [Act.put, List.setIfInBounds_toArray, List.set_cons_zero, List.set_cons_succ]
      refine takeH (i := 10) (d := (some 7)) (v := ?v10) rfl rfl (by kernel_rfl) (by kernel_rfl) (by kernel_rfl) (fun _ _ _ h => h) (by rfl) ?hy10 (by assumption) ?_
      case hy10 => ((intro w hSw; (try dsimp only at hSw); (try go_split_ands); go_simp); try with_reducible rfl)
      simp only [Act.put, List.setIfInBounds_toArray, List.set_cons_zero, List.set_cons_succ]
      refine wpAnyH_done (by kernel_rfl) ?_ _
      refine NoPanic.normal ?_
      obtain ⟨i2, i3, i4, U3⟩ := hHeld
      have J3 := HJ.out _ _ _ J2 U3
      obtain ⟨fn, tmps, assign, body, hy, hR⟩ := HY.out (List.range k) k _ J3 (by rw [List.length_range]; omega)
      clear u3 J2 J3 y2 y3 hM
      gi_wp2_with fail
      refine hR.mono ?_
      rintro e w4 (⟨rfl, hJ3, hk3⟩ | ⟨rfl, hJx3⟩)
      · have z2 := (hk3 b2 f2 g2).trans i2
        have z3 := (hk3 b3 f3 g3).trans i3
        clear hR hy
        gi_wp2
        go_roundw
        case rel => exact ⟨k + 1, by omega, by rw [TN.out], by rw [List.range_succ]; exact hJ3, z2, z3⟩
        case measure => simp [intOf]; omega
      · clear hR hy
        gi_wp2
        refine bodyPost_ret (results_none rfl _ _ _) rfl ?_
        exact ⟨⟨_, rfl⟩, .inr ⟨List.range k ++ [k], by rw [← List.range_succ]; exact range_prefix (by omega), hJx3⟩⟩
    · have t1 := HW.out.last
      obtain rfl : k = N := by omega
      gi_wp2
      go_end0
      exact ⟨⟨_, rfl⟩, .inl hJs⟩

/-- the iterator's contract -/
theorem minutes_stops {cs : Array Value} (hsz : cs.size = 15) (N : Nat) (f u : Int) (st mn A B Z S L : Nat → Int) (hw : D.Way N f u st mn S L)
    (HR : ∀ (k : Nat) (w : World), k < N → Calls Try.prog 25 #[.agg cs, .int .i64 (st k)] w fun e w' => e = .returned (rd (A k) (B k) (Z k) (S k)) ∧ Up w w')
    (HM : ∀ (k : Nat) (w : World), k < N → Calls Try.prog 58 #[.agg cs, rd (A k) (B k) (Z k) (S k)] w fun e w' => e = .returned (.int .i64 (L k)) ∧ Up w w')
    (n : Nat) (hn : 1 ≤ n) (n₁ b1 b2 b3 : Nat) (w : World) (n₀ : Nat) (g0 : n₀ ≤ w.heap.size) (g1 : b1 < n₀) (g2 : b2 < n₀) (g3 : b3 < n₀) (f2 : n₁ ≤ b2) (f3 : n₁ ≤ b3)
    (h1 : mblk w b1 = some (.cells #[.int .i64 f] 3)) (h2 : mblk w b2 = some (.cells #[.int .i64 u] 3)) (h3 : mblk w b3 = some (.cells cs 62)) :
    SeqStopsK Fence.wide n Try.prog 62 #[.pointer (some ⟨b1, 0, none⟩), .pointer (some ⟨b2, 0, none⟩), .pointer (some ⟨b3, 0, none⟩)]
      (fun x : Nat => #[rd (A x) (B x) (Z x) (S x), .int .i64 (mn x)]) (D.Kb n₁ n₀) (fun xs => xs = List.range N) (fun pre => pre <+: List.range N) N w := by
  intro l J Jx W hW hJ _ hY h0
  have q1 : mblk W b1 = some (.cells #[.int .i64 f] 3) := (Below.block hW b1 (by omega)).trans h1
  have q2 : mblk W b2 = some (.cells #[.int .i64 u] 3) := (Below.block hW b2 (by omega)).trans h2
  have q3 : mblk W b3 = some (.cells cs 62) := (Below.block hW b3 (by omega)).trans h3
  exact minutes1_in hsz N f u st mn A B Z S L hw HR HM n hn l n₁ n₀ b1 b2 b3 J Jx W g2 g3 f2 f3 q1 q2 q3
    (fun s X Y hX hU => hJ s X Y none hX ⟨hU.os, hU.tape, hU.output, hU.size, fun j hj _ => Below.block hU j hj⟩ (by simp)) hY h0

end Go.Proofs.Ytghelfbigbdkkaa
