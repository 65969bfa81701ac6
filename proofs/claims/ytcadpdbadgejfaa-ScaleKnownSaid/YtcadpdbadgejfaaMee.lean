import Derived.Test.YtcadpdbadgejfaaOff
import Derived.Test.YtcadpdbadgejfaaPlk
/- The contracts of worst and meets. -/
namespace Go.Proofs.Ytcadpdbadgejfaa
open Go.RowKit

/-- the first of the farthest so far -/
def S.wst (F : Nat → Int) : Nat → Int × Int
  | 0 => (0, 0)
  | k + 1 => if F k > (S.wst F k).2 then ((k : Int), F k) else S.wst F k
theorem S.First.ex (P : Nat → Bool) (n : Nat) : ∃ r, S.First P n r := by
  induction n with
  | zero => exact ⟨0, Nat.le_refl _, fun x hx => absurd hx (Nat.not_lt_zero x), fun h => absurd h (Nat.not_lt_zero 0)⟩
  | succ n ih =>
    obtain ⟨r, h1, h2, h3⟩ := ih
    by_cases e : r < n
    · exact ⟨r, by omega, h2, fun _ => h3 e⟩
    · obtain rfl : r = n := by omega
      cases hp : P r
      · exact ⟨r + 1, Nat.le_refl _, fun x hx => by
          by_cases e : x = r
          · subst e; exact hp
          · exact h2 x (by omega), fun h => absurd h (Nat.lt_irrefl _)⟩
      · exact ⟨r, by omega, h2, fun _ => hp⟩
/-- the fewest ticks that bring an offset to 0 -/
def S.Few (f s j off : Int) (r : Nat) : Prop := S.First (fun x => decide (max off (-off) ≤ S.most (S.part f s (S.against off)) j x)) 201 r
theorem S.Few.ex (f s j off : Int) : ∃ r, S.Few f s j off r := S.First.ex _ _
theorem S.Few.zero {f s j : Int} {r : Nat} (h : S.Few f s j 0 r) : r = 0 := by
  refine S.First.one h ⟨Nat.zero_le _, fun x hx => absurd hx (Nat.not_lt_zero x), fun _ => ?_⟩
  exact decide_eq_true (Int.le_refl 0)
def S.near (l h : Int) : Int := max l (min h 0)
theorem S.Few.near {f s j l h : Int} {rl rh rn : Nat} (hlh : l ≤ h) (hl : S.Few f s j l rl) (hh : S.Few f s j h rh) (hn : S.Few f s j (S.near l h) rn) : rn ≤ max rl rh := by
  unfold S.near at hn
  by_cases h1 : 0 < l
  · rw [show max l (min h 0) = l by omega] at hn
    have := S.First.one hl hn; omega
  · by_cases h2 : h < 0
    · rw [show max l (min h 0) = h by omega] at hn
      have := S.First.one hh hn; omega
    · rw [show max l (min h 0) = 0 by omega] at hn
      have := hn.zero; omega

section
variable {f s j dl dh : Int} {a a' : Option Addr} {n1 c n2 c' : Nat}
set_option maxRecDepth 100000 in
set_option maxHeartbeats 2000000 in
theorem worst_any {ticks : Nat} (ht : ticks ≤ 60) {o : S.Ofs} (hF : S.Fine o) {cs : Array Value} (hcs : S.OC cs o) (w : World) :
    Calls Try.prog 79 #[BV f s j dl dh ticks (.slice a n1 c) (.slice a' n2 c'), .agg cs] w fun e w' => e = .returned (.tuple #[.int .i64 (S.wst (fun i => S.far (o i).1 (o i).2) (ticks + 1)).1, .int .i64 (S.wst (fun i => S.far (o i).1 (o i).2) (ticks + 1)).2]) ∧ Up w w' := by
  have hs := Lib.hid hcs.size
  have HO := Lib.hid hcs
  have HF := Lib.hid hF
  have U0 := ((Up.refl w).alloc (.cells (BC f s j dl dh ticks (.slice a n1 c) (.slice a' n2 c')) 104)).alloc (.cells cs 108)
  have k2 := blk_keep (.cells cs 108) (blk_new w (.cells (BC f s j dl dh ticks (.slice a n1 c) (.slice a' n2 c')) 104) w.heap.size rfl)
  have k3 := blk_new (w.alloc (.cells (BC f s j dl dh ticks (.slice a n1 c) (.slice a' n2 c')) 104)) (.cells cs 108) (w.heap.size + 1) (by simp)
  have ew : IntKind.i64.wrap ((ticks : Int) + 1) = (ticks : Int) + 1 := IntWalk.i64_in _ (by omega)
  obtain ⟨F, hFe⟩ : ∃ F : Nat → Int, (fun i => S.far (o i).1 (o i).2) = F := ⟨_, rfl⟩
  rw [hFe]
  have HE := Lib.hid hFe
  clear hF hcs hFe
  go_enter Try.func79, Try.ntmps79
  go_wp2_with fail
  go_loopw [4, 5, 12] (fun tk of i wr => ∃ k : Nat, k ≤ ticks + 1 ∧ i = .int .i64 k ∧ tk = .int .i64 (S.wst F k).1 ∧ of = .int .i64 (S.wst F k).2 ∧ mblk wr (w.heap.size + 1) = some (.cells cs 108 (0, 0)) ∧ Up w wr) (fun _ _ i _ => ticks + 1 - (intOf i).toNat)
  case atStart => exact ⟨0, Nat.zero_le _, rfl, rfl, rfl, k3, U0⟩
  case round =>
    clear k2 k3 U0 ew
    obtain ⟨k, hk, rfl, rfl, rfl, k3, U⟩ := hrel
    by_cases hlt : k ≤ ticks
    · have hlt' : (k : Int) < (ticks : Int) + 1 := by omega
      have k61 : (k : Int) < 61 := by omega
      have d1 := HO.out.lo k (by omega)
      have d2 := HO.out.hi k (by omega)
      have f1 := HF.out k
      have hFk : S.far (o k).1 (o k).2 = F k := by rw [← HE.out]
      have hw : Hid (S.wst F (k + 1) = if F k > (S.wst F k).2 then ((k : Int), F k) else S.wst F k) := rfl
      obtain ⟨l, hl⟩ : ∃ l, (o k).1 = l := ⟨_, rfl⟩
      obtain ⟨h, hh⟩ : ∃ h, (o k).2 = h := ⟨_, rfl⟩
      rw [hl, hh] at hFk f1
      rw [hl] at d1
      rw [hh] at d2
      have HFa := Lib.hid (fun w => farthest_any l h w (by omega) (by omega) (by omega) (by omega))
      rw [hFk] at HFa
      obtain ⟨T, hT⟩ : ∃ T, S.wst F k = T := ⟨_, rfl⟩
      rw [hT] at hw ⊢
      obtain ⟨t0, f0⟩ := T
      obtain ⟨v, hv⟩ : ∃ v, F k = v := ⟨_, rfl⟩
      rw [hv] at hw HFa
      simp only at hw
      clear hl hh hT hv hFk f1
      by_cases hgt : v > f0
      · have hw2 : Hid (S.wst F (k + 1) = ((k : Int), v)) := by unfold Hid; rw [hw.out, if_pos hgt]
        clear hw
        go_wp2_with fail
        refine (HFa.out _).mono ?_
        rintro e w1 ⟨rfl, u1⟩
        have k4 := u1.blk k3
        have V := U.trans u1
        clear u1 HFa k3 U
        go_wp2
        go_roundw
        case rel => exact ⟨k + 1, by omega, by go_num, by rw [hw2.out], by rw [hw2.out], k4, V⟩
        case measure => simp [intOf]; omega
      · have hw2 : Hid (S.wst F (k + 1) = (t0, f0)) := by unfold Hid; rw [hw.out, if_neg hgt]
        clear hw
        go_wp2_with fail
        refine (HFa.out _).mono ?_
        rintro e w1 ⟨rfl, u1⟩
        have k4 := u1.blk k3
        have V := U.trans u1
        clear u1 HFa k3 U
        go_wp2
        go_roundw
        case rel => exact ⟨k + 1, by omega, by go_num, by rw [hw2.out], by rw [hw2.out], k4, V⟩
        case measure => simp [intOf]; omega
    · obtain rfl : k = ticks + 1 := by omega
      go_wp2
      go_ret2
      exact ⟨rfl, U⟩

theorem few_run {off : Int} {r : Nat} (hr : S.ok f s j dl dh = true) (hf : S.Few f s j off r) {m : Nat} {w : World} (K : S.Know w (.map (some m)) f s j) :
    Calls Try.prog 61 #[CV m (S.against off) (max off (-off))] w fun e w' => e = .returned (.tuple #[.int .i64 (if r ≤ 200 then r else 0), .int .i64 (if r ≤ 200 then 0 else 4)]) ∧ Up w w' :=
  fewest_any hr (S.against_is off) K hf
/-- what meets answers -/
def S.meetsV (rl rh rn : Nat) : Value := if rl ≤ 200 ∧ rh ≤ 200 then .tuple #[.int .i64 (max rl rh : Nat), .int .i64 rn, .int .i64 0] else .tuple #[.int .i64 0, .int .i64 0, .int .i64 4]
set_option maxRecDepth 100000 in
set_option maxHeartbeats 2000000 in
theorem meets_any {ticks : Int} (hr : S.ok f s j dl dh = true) {l h : Int} (l1 : -20000 ≤ l) (lh : l ≤ h) (h2 : h ≤ 20000) {rl rh rn : Nat} (hl : S.Few f s j l rl) (hh : S.Few f s j h rh) (hn : S.Few f s j (S.near l h) rn) (w : World) :
    Calls Try.prog 80 #[BV f s j dl dh ticks (.slice a n1 c) (.slice a' n2 c'), SpV l h] w fun e w' => e = .returned (S.meetsV rl rh rn) ∧ Up w w' := by
  have hnr := S.Few.near lh hl hh hn
  have nb : -20000 ≤ S.near l h ∧ S.near l h ≤ 20000 := by unfold S.near; omega
  obtain ⟨s0, hx0⟩ : ∃ sg : Int, (∀ w, (Instr.index 140 EV (.int .i64 0)).run Try.prog w = .ok (.agg #[.func (.func 110) #[] #[], .int .i64 sg]) w) := ⟨-1, fun w => by kernel_rfl⟩
  obtain ⟨s1, hx1⟩ : ∃ sg : Int, (∀ w, (Instr.index 140 EV (.int .i64 1)).run Try.prog w = .ok (.agg #[.func (.func 111) #[] #[], .int .i64 sg]) w) := ⟨1, fun w => by kernel_rfl⟩
  have U0 := ((Up.refl w).alloc (.cells (BC f s j dl dh ticks (.slice a n1 c) (.slice a' n2 c')) 104)).alloc (.cells #[.int .i64 l, .int .i64 h] 23)
  have k2 := blk_keep (.cells #[.int .i64 l, .int .i64 h] 23) (blk_new w (.cells (BC f s j dl dh ticks (.slice a n1 c) (.slice a' n2 c')) 104) w.heap.size rfl)
  have k3 := blk_new (w.alloc (.cells (BC f s j dl dh ticks (.slice a n1 c) (.slice a' n2 c')) 104)) (.cells #[.int .i64 l, .int .i64 h] 23) (w.heap.size + 1) (by simp)
  have HE := Lib.hid (fun w => ends_any w)
  have H1 := Lib.hid (fun w => ends1_any l h w)
  have H2 := Lib.hid (fun w => ends2_any l h w)
  have HNw := Lib.hid (fun w => newKnown_any hr w)
  have HC1 := Lib.hid (fun m w => course_any (m := m) l l1 (by omega) w)
  have HC2 := Lib.hid (fun m w => course_any (m := m) h (by omega) h2 w)
  have HC3 := Lib.hid (fun m w => course_any (m := m) (S.near l h) nb.1 nb.2 w)
  have HF1 := Lib.hid (fun m w (K : S.Know w (.map (some m)) f s j) => few_run hr hl K)
  have HF2 := Lib.hid (fun m w (K : S.Know w (.map (some m)) f s j) => few_run hr hh K)
  have HF3 := Lib.hid (fun m w (K : S.Know w (.map (some m)) f s j) => few_run hr hn K)
  have HNe := Lib.hid (fun w => show Calls Try.prog 96 #[SpV l h] w fun e w' => e = .returned (.int .i64 (S.near l h)) ∧ Up w w' from nearest_any l h w)
  have hM0 : ∀ (ts : Array TypeId) (t' : TypeId) (w : World), (Builtin.max_ ts t' #[.int .i64 0, .int .i64 rl]).run Try.prog w = .ok (.int .i64 rl) w := fun ts t' w => by
    have e : (if (rl : Int) > 0 then (rl : Int) else 0) = rl := by split <;> omega
    rw [run_max_int2, e]
  have hM1 : ∀ (ts : Array TypeId) (t' : TypeId) (w : World), (Builtin.max_ ts t' #[.int .i64 rl, .int .i64 rh]).run Try.prog w = .ok (.int .i64 (max rl rh : Nat)) w := fun ts t' w => by
    have e : (if (rh : Int) > rl then (rh : Int) else rl) = (max rl rh : Nat) := by split <;> omega
    rw [run_max_int2, e]
  generalize S.near l h = nr at *
  generalize S.against l = al at *
  generalize S.against h = ah at *
  generalize S.against nr = an at *
  generalize max l (-l) = fl at *
  generalize max h (-h) = fh at *
  generalize max nr (-nr) = fn at *
  obtain ⟨mx, hmx⟩ : ∃ mx, max rl rh = mx := ⟨_, rfl⟩
  rw [hmx] at hM1 hnr
  clear hl hh hn hr nb
  go_enter Try.func80, Try.ntmps80
  go_wp2_with fail
  refine (HNw.out _).mono ?_
  rintro e w1 ⟨v, rfl, u1, K1⟩
  obtain ⟨m, _, _, rfl, _, _⟩ := K1.is
  have U1 := U0.trans u1
  have k4 := u1.blk k3
  clear u1 U0 k2 k3 HNw
  go_wp2_with fail
  refine (HE.out _).mono ?_
  rintro e w2 ⟨rfl, u2⟩
  have U2 := U1.trans u2
  have k5 := u2.blk k4
  have K2 := K1.up u2
  clear u2 U1 k4 K1 HE
  go_wp2_with fail
  go_loopw [4, 18] (fun sv i wr => ((i = .int .i64 0 ∧ sv = .int .i64 0) ∨ (i = .int .i64 1 ∧ sv = .int .i64 rl ∧ rl ≤ 200) ∨ (i = .int .i64 2 ∧ sv = .int .i64 mx ∧ rl ≤ 200 ∧ rh ≤ 200)) ∧ mblk wr (w.heap.size + 1) = some (.cells #[.int .i64 l, .int .i64 h] 23 (0, 0)) ∧ S.Know wr (.map (some m)) f s j ∧ Up w wr) (fun _ i _ => 2 - (intOf i).toNat)
  case atStart => exact ⟨.inl ⟨rfl, rfl⟩, k5, K2, U2⟩
  case round =>
    clear k5 K2 U2
    obtain ⟨hi, k5, K, V⟩ := hrel
    rcases hi with ⟨rfl, rfl⟩ | ⟨rfl, rfl, r1⟩ | ⟨rfl, rfl, r1, r2⟩
    · have k6 := blk_keep (.cells #[.func (.func 110) #[] #[], .int .i64 s0] 139) k5
      have k7 := blk_new wr (.cells #[.func (.func 110) #[] #[], .int .i64 s0] 139) _ rfl
      have V1 := V.alloc (.cells #[.func (.func 110) #[] #[], .int .i64 s0] 139)
      have K1 := K.up ((Up.refl wr).alloc (.cells #[.func (.func 110) #[] #[], .int .i64 s0] 139))
      have lt5 := blk_lt k5
      clear k5 V K
      go_wp2_with fail
      refine (H1.out _).mono ?_
      rintro e w3 ⟨rfl, u3⟩
      replace k6 := u3.blk k6
      replace V1 := V1.trans u3
      replace K1 := K1.up u3
      clear u3 k7
      go_wp2_with fail
      refine (HC1.out m _).mono ?_
      rintro e w4 ⟨rfl, u4⟩
      replace k6 := u4.blk k6
      replace V1 := V1.trans u4
      replace K1 := K1.up u4
      clear u4
      go_wp2_with fail
      by_cases hle : rl ≤ 200
      · rw [if_pos hle, if_pos hle] at HF1
        refine (HF1.out m _ K1).mono ?_
        rintro e w5 ⟨rfl, u5⟩
        replace k6 := u5.blk k6
        replace V1 := V1.trans u5
        replace K1 := K1.up u5
        clear u5
        go_wp2
        go_roundw
        case rel => exact ⟨.inr (.inl ⟨by go_num, rfl, hle⟩), k6, K1, V1⟩
        case measure => simp [intOf]
      · rw [if_neg hle, if_neg hle] at HF1
        refine (HF1.out m _ K1).mono ?_
        rintro e w5 ⟨rfl, u5⟩
        replace V1 := V1.trans u5
        clear u5 k6 K1
        have hval : S.meetsV rl rh rn = .tuple #[.int .i64 0, .int .i64 0, .int .i64 4] := by unfold S.meetsV; exact if_neg (fun q => hle q.1)
        have HV := Lib.hid hval
        clear hval
        go_wp2
        exact bodyPost_ret (v := .tuple #[.int .i64 0, .int .i64 0, .int .i64 4]) (by simp [results, Try.results80, go_sem]) rfl ⟨by rw [HV.out], V1⟩
    · have k6 := blk_keep (.cells #[.func (.func 111) #[] #[], .int .i64 s1] 139) k5
      have k7 := blk_new wr (.cells #[.func (.func 111) #[] #[], .int .i64 s1] 139) _ rfl
      have V1 := V.alloc (.cells #[.func (.func 111) #[] #[], .int .i64 s1] 139)
      have K1 := K.up ((Up.refl wr).alloc (.cells #[.func (.func 111) #[] #[], .int .i64 s1] 139))
      have lt5 := blk_lt k5
      clear k5 V K
      go_wp2_with fail
      refine (H2.out _).mono ?_
      rintro e w3 ⟨rfl, u3⟩
      replace k6 := u3.blk k6
      replace V1 := V1.trans u3
      replace K1 := K1.up u3
      clear u3 k7
      go_wp2_with fail
      refine (HC2.out m _).mono ?_
      rintro e w4 ⟨rfl, u4⟩
      replace k6 := u4.blk k6
      replace V1 := V1.trans u4
      replace K1 := K1.up u4
      clear u4
      go_wp2_with fail
      by_cases hle : rh ≤ 200
      · rw [if_pos hle, if_pos hle] at HF2
        refine (HF2.out m _ K1).mono ?_
        rintro e w5 ⟨rfl, u5⟩
        replace k6 := u5.blk k6
        replace V1 := V1.trans u5
        replace K1 := K1.up u5
        clear u5
        go_wp2
        go_roundw
        case rel => exact ⟨.inr (.inr ⟨by go_num, rfl, r1, hle⟩), k6, K1, V1⟩
        case measure => simp [intOf]
      · rw [if_neg hle, if_neg hle] at HF2
        refine (HF2.out m _ K1).mono ?_
        rintro e w5 ⟨rfl, u5⟩
        replace V1 := V1.trans u5
        clear u5 k6 K1
        have hval : S.meetsV rl rh rn = .tuple #[.int .i64 0, .int .i64 0, .int .i64 4] := by unfold S.meetsV; exact if_neg (fun q => hle q.2)
        have HV := Lib.hid hval
        clear hval
        go_wp2
        exact bodyPost_ret (v := .tuple #[.int .i64 0, .int .i64 0, .int .i64 4]) (by simp [results, Try.results80, go_sem]) rfl ⟨by rw [HV.out], V1⟩
    · have hrn : rn ≤ 200 := by omega
      rw [if_pos hrn, if_pos hrn] at HF3
      have hval : S.meetsV rl rh rn = .tuple #[.int .i64 mx, .int .i64 rn, .int .i64 0] := by unfold S.meetsV; rw [if_pos ⟨r1, r2⟩, hmx]
      have HV := Lib.hid hval
      clear hval
      go_wp2_with fail
      refine (HNe.out _).mono ?_
      rintro e w3 ⟨rfl, u3⟩
      go_wp2_with fail
      refine (HC3.out m _).mono ?_
      rintro e w4 ⟨rfl, u4⟩
      have K4 := (K.up u3).up u4
      have V4 := (V.trans u3).trans u4
      clear u3 u4 K V
      go_wp2_with fail
      refine (HF3.out m _ K4).mono ?_
      rintro e w5 ⟨rfl, u5⟩
      have V5 := V4.trans u5
      go_wp2
      exact bodyPost_ret (v := .tuple #[.int .i64 mx, .int .i64 rn, .int .i64 0]) (by simp [results, Try.results80, go_sem]) rfl ⟨by rw [HV.out], V5⟩
end

end Go.Proofs.Ytcadpdbadgejfaa
