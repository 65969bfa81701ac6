import Derived.Test.YtlpkheoljbdajaaFws
import Derived.Test.YtlpkheoljbdajaaSou
import Derived.Test.YtlpkheoljbdajaaRfS
import Derived.Test.YtlpkheoljbdajaaBkE
import Derived.Test.YtlpkheoljbdajaaHeQ
import Derived.Test.YtlpkheoljbdajaaRfM
import Derived.Test.YtlpkheoljbdajaaBoo
import Derived.Test.YtlpkheoljbdajaaSam
import Derived.Test.YtlpkheoljbdajaaLsW
import Derived.Test.YtlpkheoljbdajaaClA
import Derived.Test.YtlpkheoljbdajaaIde
import Derived.Test.YtlpkheoljbdajaaExq
import Derived.Test.YtlpkheoljbdajaaLws
import Derived.Test.YtlpkheoljbdajaaBsc
/- What is told of a book as functions; when a look is idle; what Worst tells. -/
namespace Go.Proofs.Ytlpkheoljbdajaa
open Go.RowKit

/-- what is told, as a function (nothing: 0 to 0) -/
noncomputable def T.tl (P : (Int → Int) → Prop) (m i : Int) : Int × Int :=
  @dite _ (∃ p : Int × Int, T.Tells P m i p.1 p.2 0) (Classical.propDecidable _) (fun h => Classical.choose h) (fun _ => (0, 0))
theorem T.tl_of {P : (Int → Int) → Prop} {m i l h : Int} (t : T.Tells P m i l h 0) : T.tl P m i = (l, h) := by
  have q : ∃ p : Int × Int, T.Tells P m i p.1 p.2 0 := ⟨(l, h), t⟩
  unfold T.tl
  rw [dif_pos q]
  have c := Classical.choose_spec q
  have u := c.uniq t
  exact Prod.ext u.1 u.2.1
theorem T.tl_is {P : (Int → Int) → Prop} {m i : Int} (q : ∃ l h, T.Tells P m i l h 0) : T.Tells P m i (T.tl P m i).1 (T.tl P m i).2 0 := by
  obtain ⟨l, h, t⟩ := q
  rw [T.tl_of t]
  exact t
def T.allB (f : Nat → Bool) (j : Nat) : Bool := (List.range j).all f
theorem T.allB_step {f : Nat → Bool} {j : Nat} : T.allB f (j + 1) = (T.allB f j && f j) := by
  unfold T.allB
  rw [List.range_succ, List.all_append]
  simp
theorem T.allB_iff {f : Nat → Bool} {j : Nat} : T.allB f j = true ↔ ∀ k, k < j → f k = true := by
  unfold T.allB
  simp only [List.all_eq_true, List.mem_range]
section
variable {N : Nat} {bl bh rl rh : Int} {ps qs : List (Int × Int)} {ls : List T.T5} {o : Nat → Bool}
theorem T.tl_tells (hv : T.valid N bl bh rl rh ps qs ls = true) (hx : ∃ y, T.Tru N bl bh rl rh ps qs ls o y) {m i : Int} (hm : T.Alive N ps.length qs.length m) (hi : T.Alive N ps.length qs.length i) :
    T.Tells (T.Tru N bl bh rl rh ps qs ls o) m i (T.tl (T.Tru N bl bh rl rh ps qs ls o) m i).1 (T.tl (T.Tru N bl bh rl rh ps qs ls o) m i).2 0 := by
  obtain ⟨l, h, e, t, _⟩ := T.Tells.ex (o := o) hv hm hi
  obtain ⟨y, hy⟩ := hx
  obtain rfl := t.has hy
  exact T.tl_is ⟨l, h, t⟩
/-- which night, how wide, and the error -/
def T.wr (wd : Nat → Int) (n : Nat) : Int × Int × Int := if (T.wst wd n).2 = 0 then (0, 0, 4) else ((T.wst wd n).1, (T.wst wd n).2, 0)
theorem T.wst_congr {f g : Nat → Int} : ∀ {n : Nat}, (∀ k, k < n → f k = g k) → T.wst f n = T.wst g n
  | 0, _ => rfl
  | n + 1, h => by
    unfold T.wst
    rw [T.wst_congr (n := n) fun k hk => h k (by omega), h n (by omega)]
theorem T.worst_wr (hv : T.valid N bl bh rl rh ps qs ls = true) (hx : ∃ y, T.Tru N bl bh rl rh ps qs ls o y) {a b c : Int} (h : T.WorstIs (T.web N bl bh rl rh ps qs ls o) N a b c) :
    (a, b, c) = T.wr (fun k => (T.tl (T.Tru N bl bh rl rh ps qs ls o) 0 (1 + (k : Int))).2 - (T.tl (T.Tru N bl bh rl rh ps qs ls o) 0 (1 + (k : Int))).1) N := by
  have B := T.valid_bok hv
  rcases h with ⟨_, _, _, hno⟩ | ⟨lo, hi, hT, hc⟩
  · obtain ⟨y, hy⟩ := hx
    exact absurd ((T.sat_tru B).2 hy) (hno y)
  · have e : T.wst (fun k => hi k - lo k) N = T.wst (fun k => (T.tl (T.Tru N bl bh rl rh ps qs ls o) 0 (1 + (k : Int))).2 - (T.tl (T.Tru N bl bh rl rh ps qs ls o) 0 (1 + (k : Int))).1) N :=
      T.wst_congr fun k hk => by
        have t : T.Tells (T.Tru N bl bh rl rh ps qs ls o) 0 (1 + (k : Int)) (lo k) (hi k) 0 := (T.tells_asked B).1 (.inl ⟨rfl, hT k hk⟩)
        rw [T.tl_of t]
    rw [e] at hc
    unfold T.wr
    rcases hc with ⟨h1, rfl, rfl, rfl⟩ | ⟨h1, rfl, rfl, rfl⟩
    · rw [if_pos h1]
    · rw [if_neg h1]
/-- without looks: an offset goes on by the ends of the rate -/
theorem T.none_tells (hv : T.valid N bl bh rl rh ps qs ls = true) {k : Nat} (hk : k < N) : T.Tells (T.Tr N bl bh rl rh ps qs []) 0 (1 + (k : Int)) (bl + k * rl) (bh + k * rh) 0 := by
  have hv0 : T.valid N bl bh rl rh ps qs [] = true := T.valid_looks hv (by simp) (fun x hx => by cases hx)
  have in_ : ∀ y, T.Tr N bl bh rl rh ps qs [] y → ∀ k : Nat, k < N → bl + k * rl ≤ y (1 + (k : Int)) - y 0 ∧ y (1 + (k : Int)) - y 0 ≤ bh + k * rh := fun y hy k => by
    induction k with
    | zero =>
      intro _
      have := hy.beg
      rw [show (1 : Int) + ((0 : Nat) : Int) = 1 from rfl]
      simp
      omega
    | succ k ih =>
      intro hk
      have a := ih (by omega)
      have b := hy.rat k hk
      rw [show ((k + 1 : Nat) : Int) = (k : Int) + 1 by omega, Int.add_mul, Int.add_mul]
      omega
  have lo := T.low_tru (ls := []) (o := T.o0) hv0 (fun k hk => by cases hk)
  have e0 : T.low bl rl ps qs 0 = 0 := by unfold T.low; rw [if_pos rfl]
  have n8 := (T.valid_bok hv).n8
  have p4 := (T.valid_bok hv).p4
  have el : T.low bl rl ps qs (1 + (k : Int)) = bl + rl * k := by
    unfold T.low
    rw [if_neg (by omega), if_pos (by omega), show (1 + (k : Int) - 1) = k by omega]
  have hl := lo
  -- the greatest: all nights at the upper end
  have up : T.Tr N bl bh rl rh ps qs [] (fun i => if 1 ≤ i ∧ i < 9 then bh + rh * (i - 1) else T.low bl rl ps qs i) := by
    obtain ⟨⟨_, hb, hr⟩, _⟩ := T.valid_parts hv
    refine ⟨?_, fun j hj => ?_, fun j hj => ?_, fun j hj => ?_, fun j hj => by cases hj⟩
    · rw [if_pos (by omega), if_neg (by omega), e0]
      simp
      omega
    · rw [if_pos (by omega), if_pos (by omega), show (1 + ((j : Int) + 1) - 1) = (j : Int) + 1 by omega, show (1 + (j : Int) - 1) = j by omega, Int.mul_add]
      omega
    · have := hl.per j hj
      rw [if_neg (by omega), if_neg (by omega)]
      exact this
    · have := hl.pth j hj
      rw [if_neg (by omega), if_neg (by omega)]
      exact this
  refine .inl ⟨rfl, fun y hy => in_ y hy k hk, ⟨_, lo, ?_⟩, _, up, ?_⟩
  · rw [e0, el, Int.mul_comm]; omega
  · rw [if_pos (by omega), if_neg (by omega), e0, show (1 + (k : Int) - 1) = k by omega, Int.mul_comm]; omega
theorem T.kpt_none {zs : List Int} {j : Nat} (h : ∀ k, k < j → (k : Int) ∈ zs) : T.kpt zs ls j = [] := by
  refine List.eq_nil_iff_forall_not_mem.2 fun x hx => ?_
  obtain ⟨k, hk, hz, _⟩ := T.mem_kpt.1 hx
  exact hz (h k hk)
/-- a look is idle just if all spans are told as before without it -/
theorem T.idle_iff (hv : T.valid N bl bh rl rh ps qs ls = true) (hx : ∃ y, T.Tr N bl bh rl rh ps qs ls y) {k : Nat} :
    T.Same (T.web N bl bh rl rh ps qs ls T.o0) (T.web N bl bh rl rh ps qs ls (T.st T.o0 k true)) ↔
      (∀ j, j < N → T.tl (T.Tr N bl bh rl rh ps qs ls) 0 (1 + (j : Int)) = T.tl (T.Tr N bl bh rl rh ps qs (T.kpt [(k : Int)] ls ls.length)) 0 (1 + (j : Int))) ∧
      (∀ j, j < ps.length → T.tl (T.Tr N bl bh rl rh ps qs ls) (9 + (j : Int)) 0 = T.tl (T.Tr N bl bh rl rh ps qs (T.kpt [(k : Int)] ls ls.length)) (9 + (j : Int)) 0) ∧
      ∀ j, j < qs.length → T.tl (T.Tr N bl bh rl rh ps qs ls) 0 (13 + (j : Int)) = T.tl (T.Tr N bl bh rl rh ps qs (T.kpt [(k : Int)] ls ls.length)) 0 (13 + (j : Int)) := by
  have eP : T.Tr N bl bh rl rh ps qs (T.kpt [(k : Int)] ls ls.length) = T.Tru N bl bh rl rh ps qs ls (T.st T.o0 k true) := funext fun y => propext (T.kpt_tru.trans ⟨fun h => h.agree fun j _ => by
      unfold T.st
      by_cases e : j = k
      · rw [if_pos e, e]; simp
      · rw [if_neg e]; simp; omega, fun h => h.agree fun j _ => by
      unfold T.st
      by_cases e : j = k
      · rw [if_pos e, e]; simp
      · rw [if_neg e]; simp; omega⟩)
  rw [eP]
  have hm : ∀ y, T.Tr N bl bh rl rh ps qs ls y → T.Tru N bl bh rl rh ps qs ls (T.st T.o0 k true) y := fun y hy => hy.less (fun _ _ => rfl)
  have hx' : ∃ y, T.Tru N bl bh rl rh ps qs ls (T.st T.o0 k true) y := by obtain ⟨y, hy⟩ := hx; exact ⟨y, hm y hy⟩
  rw [T.same_tells hv hx hm]
  constructor
  · intro h
    refine ⟨fun j hj => ?_, fun j hj => ?_, fun j hj => ?_⟩
    · obtain ⟨l, u, _, t1, t2⟩ := h _ (T.al_night (n := (j : Int)) ⟨by omega, by omega⟩)
      rw [T.tl_of t1, T.tl_of t2]
    · have al := T.al_per (N := N) (nq := qs.length) (np := ps.length) (n := (j : Int)) ⟨by omega, by omega⟩
      obtain ⟨l, u, _, t1, t2⟩ := h _ al
      have s1 := T.tl_tells hv hx al T.al_0
      have s2 := T.tl_tells hv hx' al T.al_0
      have f1 := t1.flip s1
      have f2 := t2.flip s2
      exact Prod.ext (f1.2.1.trans f2.2.1.symm) (f1.2.2.trans f2.2.2.symm)
    · obtain ⟨l, u, _, t1, t2⟩ := h _ (T.al_pth (n := (j : Int)) ⟨by omega, by omega⟩)
      rw [T.tl_of t1, T.tl_of t2]
  · rintro ⟨h1, h2, h3⟩ i hi
    obtain ⟨l, u, e, t, b, _⟩ := T.Tells.ex (o := T.o0) hv T.al_0 hi
    obtain rfl : e = 0 := by obtain ⟨y, hy⟩ := hx; exact t.has hy
    refine ⟨l, u, b, t, ?_⟩
    have s2 := T.tl_tells hv hx' T.al_0 hi
    have key : T.tl (T.Tru N bl bh rl rh ps qs ls (T.st T.o0 k true)) 0 i = (l, u) := by
      rcases hi with rfl | ⟨a1, a2⟩ | ⟨a1, a2⟩ | ⟨a1, a2⟩
      · have z1 := t.self
        have z2 := s2.self
        exact Prod.ext (z2.1.trans z1.1.symm) (z2.2.trans z1.2.symm)
      · obtain ⟨j, rfl⟩ : ∃ j : Nat, i = 1 + j := ⟨(i - 1).toNat, by omega⟩
        rw [← h1 j (by omega), T.tl_of t]
      · obtain ⟨j, rfl⟩ : ∃ j : Nat, i = 9 + j := ⟨(i - 9).toNat, by omega⟩
        have al := T.al_per (N := N) (nq := qs.length) (np := ps.length) (n := (j : Int)) ⟨by omega, by omega⟩
        have r1 := T.tl_tells hv hx al T.al_0
        have r2 := T.tl_tells hv hx' al T.al_0
        have e := h2 j (by omega)
        rw [e] at r1
        have f1 := r1.flip t
        have f2 := r2.flip s2
        exact Prod.ext (f2.2.1.trans f1.2.1.symm) (f2.2.2.trans f1.2.2.symm)
      · obtain ⟨j, rfl⟩ : ∃ j : Nat, i = 13 + j := ⟨(i - 13).toNat, by omega⟩
        rw [← h3 j (by omega), T.tl_of t]
    rw [key] at s2
    exact s2
end

end Go.Proofs.Ytlpkheoljbdajaa

/- The contract of the reference's all, and of base's AlikeSpans. -/
namespace Go.Proofs.Ytlpkheoljbdajaa
open Go.RowKit Go.Shelf
attribute [local go_sem] Oper.semAt_some
/-- what all tells -/
def T.alS (M : T.Mt) (n : Nat) : List (Int × Int) := (List.range n).map fun a => (-(M a 0), M 0 a)
theorem T.alS_len {M : T.Mt} {n : Nat} : (T.alS M n).length = n := by simp [T.alS]
theorem T.alS_succ {M : T.Mt} {n : Nat} : T.alS M (n + 1) = T.alS M n ++ [(-(M n 0), M 0 n)] := by simp [T.alS, List.range_succ]
set_option maxRecDepth 100000 in
set_option maxHeartbeats 4000000 in
theorem r_all_any {w : World} {g D : Nat} {rw : Nat → Nat} {M : T.Mt} (HM : T.Mx w g D rw M D) (hD : D ≤ 17) (hb : ∀ a, a < D → -600000 ≤ M a 0 ∧ M a 0 ≤ 600000) :
    Calls Try.prog 81 #[.slice (some ⟨g, 0, none⟩) D D] w fun e w' => (∃ v, e = .returned v ∧ Sps w' v (T.alS M D)) ∧ Up w w' := by
  have HB := Lib.hid (fun w' (u : Up w w') k (hk : k < D) => show Calls Try.prog 67 #[.slice (some ⟨g, 0, none⟩) D D, .int .i64 0, .int .i64 (k : Int)] w' fun e w'' => e = .returned (SpV (-(M k 0)) (M 0 k)) ∧ Up w' w'' from r_between_any (a := 0) (b := k) (HM.up u) (by omega) hk (by have := hb k hk; omega))
  clear HM hb
  go_enter Try.func81, Try.ntmps81
  go_wp2_with fail
  obtain ⟨q, hq⟩ : ∃ x, w.heap.size = x := ⟨_, rfl⟩
  have hq1 : q ≤ w.heap.size := by omega
  go_loopw [3, 4] (fun v i wr => ∃ k : Nat, k ≤ D ∧ i = .int .i64 k ∧ Up w wr ∧ wr.ownsRow q 23 2 v k (T.flat 2 T.encS (T.alS M k)) ∧ q ≤ wr.heap.size) (fun _ i _ => D - (intOf i).toNat)
  case atStart => exact ⟨0, Nat.zero_le _, rfl, Up.refl _, by show w.ownsRow q 23 2 (.slice none 0 0) 0 []; exact World.ownsRow_nil _ _ _ _, hq1⟩
  case round =>
    clear hq1
    obtain ⟨k, hk, rfl, V, hown, hq2⟩ := hrel
    by_cases hlt : k < D
    · have ew : IntKind.i64.wrap ((k : Int) + 1) = (k : Int) + 1 := IntWalk.i64_in _ (by omega)
      have hin : decide ((k : Int) < (D : Int)) = true := decide_eq_true (by omega)
      have ilt : (k : Int) < (D : Int) := by omega
      have HC := Lib.hid (HB.out wr V k hlt)
      have HE := Lib.hid (T.alS_succ (M := M) (n := k))
      obtain ⟨x, hx⟩ : ∃ x, -(M k 0) = x := ⟨_, rfl⟩
      obtain ⟨y, hy⟩ : ∃ y, M 0 k = y := ⟨_, rfl⟩
      rw [hx, hy] at HC HE
      have HV := Lib.hid V
      have HO := Lib.hid hown
      clear V hx hy hown
      go_wp2_with fail
      refine HC.out.mono ?_
      rintro e w9 ⟨rfl, u⟩
      have hO := Lib.hid (row_up HO.out u)
      have hV := Lib.hid (HV.out.trans u)
      have hS := u.size
      clear u HC HO HV
      have IX : Sps (w9.alloc (.cells #[.int .i64 x, .int .i64 y] 23)) (.slice (some ⟨w9.heap.size, 0, none⟩) 1 1) [(x, y)] := Tab.new (cap := 1) (xs := [(x, y)]) (blk_new w9 (.cells #[.int .i64 x, .int .i64 y] 23) _ rfl) (Nat.le_refl _) (by simp) (fun j hj i hi => by
        obtain rfl : j = 0 := by simp at hj; omega
        rcases (show i = 0 ∨ i = 1 by omega) with rfl | rfl <;> rfl)
      have hA := (hO.out).alloc (.cells #[.int .i64 x, .int .i64 y] 23)
      go_wp2_with (at_builtin; refine T.wpList_app (ys := T.alS M k) (xs := [(x, y)]) T.elS rfl (.tmp 11) (.tmp 15) rfl IX rfl q _ k rfl hA (by omega) (by simp) (by rw [sz1]; omega) ?_; intro v' w6 hown6 hgrow6)
      have hN : T.alS M k ++ [(x, y)] = T.alS M (k + 1) := HE.out.symm
      rw [hN] at hown6
      go_roundw
      case rel => exact ⟨k + 1, by omega, by go_num, (hV.out.alloc _).grown hgrow6 (fun b e => by have := row_base hO.out b e; omega), hown6, by have := hgrow6.size; rw [sz1] at this; omega⟩
      case measure => (simp only [intOf]; omega)
    · have hin : decide ((k : Int) < (D : Int)) = false := decide_eq_false (by omega)
      have ilt : ¬ (k : Int) < (D : Int) := by omega
      obtain rfl : k = D := by omega
      have HF := Lib.hid (Tab.of_row (d := (0, 0)) hown (by decide) (by omega))
      clear hown
      go_wp2
      go_ret
      exact ⟨⟨_, rfl, HF.out⟩, V⟩

end Go.Proofs.Ytlpkheoljbdajaa

/- The contract of base's AlikeSpans. -/
namespace Go.Proofs.Ytlpkheoljbdajaa
open Go.RowKit Go.Shelf
attribute [local go_sem] Oper.semAt_some
section
variable {bl bh rl rh : Int} {aP aQ aL : Option Addr} {nP cP nQ cQ nL cL : Nat} {ps qs : List (Int × Int)} {ls : List T.T5}
/-- as far as here they are alike -/
def T.akK (xs ys : List (Int × Int)) (k : Nat) : Prop := xs.length = ys.length ∧ ∀ j, j < k → xs.getD j (0, 0) = ys.getD j (0, 0)
theorem T.akK_all {xs ys : List (Int × Int)} : T.akK xs ys xs.length ↔ xs = ys := by
  constructor
  · intro h
    refine List.ext_getElem h.1 fun j h1 h2 => ?_
    have := h.2 j h1
    rw [List.getD_eq_getElem?_getD, List.getD_eq_getElem?_getD, List.getElem?_eq_getElem h1, List.getElem?_eq_getElem h2] at this
    exact this
  · rintro rfl
    exact ⟨rfl, fun _ _ => rfl⟩
theorem T.akK_succ {xs ys : List (Int × Int)} {k : Nat} : T.akK xs ys (k + 1) ↔ T.akK xs ys k ∧ xs.getD k (0, 0) = ys.getD k (0, 0) := by
  constructor
  · intro h
    exact ⟨⟨h.1, fun j hj => h.2 j (by omega)⟩, h.2 k (by omega)⟩
  · rintro ⟨h, e⟩
    refine ⟨h.1, fun j hj => ?_⟩
    by_cases q : j = k
    · rw [q]; exact e
    · exact h.2 j (by omega)
set_option maxRecDepth 100000 in
set_option maxHeartbeats 8000000 in
set_option linter.unusedSimpArgs false in
theorem B_AlikeSpans_any {xs ys : List (Int × Int)} {va vb : Value} {w : World} (SA : Sps w va xs) (SB : Sps w vb ys) :
    Calls Try.prog 80 #[va, vb] w fun e w' => e = .returned (.bool (decide (xs = ys))) ∧ Up w w' := by
  have hmx : Try.prog.follows .mixedOrders = true := by kernel_rfl
  obtain ⟨a, c, rfl, _, lx, ma⟩ := SA.is
  obtain ⟨a', c', rfl, _, ly, mb⟩ := SB.is
  have MA := Lib.hid ma
  have MB := Lib.hid mb
  obtain ⟨t0, ht0⟩ : ∃ t : Bool, ((xs.length : Int) == (ys.length : Int)) = t := ⟨_, rfl⟩
  have H0 := Lib.hid (show t0 = true ↔ T.akK xs ys 0 from by
    rw [← ht0, beq_iff_eq]
    exact ⟨fun h => ⟨by omega, fun j hj => by omega⟩, fun h => by have := h.1; omega⟩)
  clear ma mb SA SB
  go_enter Try.func80, Try.ntmps80
  go_wp2_with fail
  go_loopw [5, 6] (fun b i wr => ∃ (k : Nat) (t : Bool), k ≤ xs.length ∧ b = .bool t ∧ i = .int .i64 k ∧ Hid (t = true ↔ T.akK xs ys k) ∧ Up w wr) (fun _ i _ => xs.length - (intOf i).toNat)
  case atStart => exact ⟨0, t0, Nat.zero_le _, rfl, rfl, H0, Up.refl w⟩
  case round =>
    clear H0 ht0
    obtain ⟨k, t, hk, rfl, rfl, HT, U⟩ := hrel
    cases t with
    | true =>
      by_cases hlt : k < xs.length
      · skip
        have hly : xs.length = ys.length := (HT.out.1 rfl).1
        have ew : IntKind.i64.wrap ((k : Int) + 1) = (k : Int) + 1 := IntWalk.i64_in _ (by omega)
        have dk : decide ((k : Int) < (xs.length : Int)) = true := decide_eq_true (by omega)
        have ilt : (k : Int) < (xs.length : Int) := by omega
        have ilt2 : (k : Int) < (ys.length : Int) := by omega
        have kly : k < ys.length := by omega
        obtain ⟨g, off, rfl, gl, hx⟩ := MA.out (by omega)
        obtain ⟨g', off', rfl, gl', hx'⟩ := MB.out (by omega)
        have hst := T.akK_succ (xs := xs) (ys := ys) (k := k)
        obtain ⟨⟨p0, p1⟩, hp⟩ : ∃ s, xs.getD k (0, 0) = s := ⟨_, rfl⟩
        obtain ⟨⟨r0, r1⟩, hr⟩ : ∃ s, ys.getD k (0, 0) = s := ⟨_, rfl⟩
        rw [hp, hr, Prod.mk.injEq] at hst
        have c0 : wr.cell? ⟨g, off + k * 2, none⟩ = some (.int .i64 p0) := by have := (U.facts.1 g _ gl).trans (hx k hlt 0 (by omega)); rw [hp] at this; exact this
        have c1 : wr.cell? ⟨g, off + k * 2 + 1, none⟩ = some (.int .i64 p1) := by have := (U.facts.1 g _ gl).trans (hx k hlt 1 (by omega)); rw [hp] at this; exact this
        have e0 : wr.cell? ⟨g', off' + k * 2, none⟩ = some (.int .i64 r0) := by have := (U.facts.1 g' _ gl').trans (hx' k kly 0 (by omega)); rw [hr] at this; exact this
        have e1 : wr.cell? ⟨g', off' + k * 2 + 1, none⟩ = some (.int .i64 r1) := by have := (U.facts.1 g' _ gl').trans (hx' k kly 1 (by omega)); rw [hr] at this; exact this
        have HH := Lib.hid (show ∀ w', Up wr w' → w'.cell? ⟨g, off + k * 2, none⟩ = some (.int .i64 p0) ∧ w'.cell? ⟨g, off + k * 2 + 1, none⟩ = some (.int .i64 p1) ∧ w'.cell? ⟨g', off' + k * 2, none⟩ = some (.int .i64 r0) ∧ w'.cell? ⟨g', off' + k * 2 + 1, none⟩ = some (.int .i64 r1) from fun w' u => ⟨u.cell2 c0, u.cell2 c1, u.cell2 e0, u.cell2 e1⟩)
        have HST := Lib.hid hst
        have HK := HT.out.1 rfl
        have HKK := Lib.hid HK
        have HLY := Lib.hid hly
        clear hst HK HT hx hx' hp hr c0 c1 e0 e1 gl gl' hly
        by_cases h0 : p0 = r0
        · by_cases h1 : p1 = r1
          · skip
            have HX := Lib.hid (HST.out.2 ⟨HKK.out, h0, h1⟩)
            clear HST HKK
            go_wp2_with fail
            refine (wpIn_wide (n := 5)).1 ?_
            refine wpIn_nrm ?_
            refine T.regionQ (fun w' => Up wr w') 9 1 hmx (by kernel_rfl) (by kernel_rfl) ((Up.refl wr).drew) (fun hCl => ?_)
            refine T.qT 0 (some 21) ?v1 rfl rfl hCl ?hy1 (fun hCl => ?_)
            case hy1 => (intro w hSw; refine T.qVal ?_ hSw; (try dsimp only [List.getElem_toArray, List.getElem_cons_succ, List.getElem_cons_zero]); go_simp; try with_reducible rfl)
            simp only [Act.put, T.pa, T.pb, T.pc]
            refine T.qT 1 (some 22) ?v2 rfl rfl hCl ?hy2 (fun hCl => ?_)
            case hy2 => (intro w hSw; refine T.qVal ?_ hSw; (try dsimp only [List.getElem_toArray, List.getElem_cons_succ, List.getElem_cons_zero]); go_simp; try with_reducible rfl)
            simp only [Act.put, T.pa, T.pb, T.pc]
            refine T.qT 4 (some 25) ?v3 rfl rfl hCl ?hy3 (fun hCl => ?_)
            case hy3 => (intro w hSw; refine T.qVal ?_ hSw; (try dsimp only [List.getElem_toArray, List.getElem_cons_succ, List.getElem_cons_zero]); go_simp; try with_reducible rfl)
            simp only [Act.put, T.pa, T.pb, T.pc]
            refine T.qT 5 (some 26) ?v4 rfl rfl hCl ?hy4 (fun hCl => ?_)
            case hy4 => (intro w hSw; refine T.qVal ?_ hSw; (try dsimp only [List.getElem_toArray, List.getElem_cons_succ, List.getElem_cons_zero]); go_simp; try with_reducible rfl)
            simp only [Act.put, T.pa, T.pb, T.pc]
            refine T.qT 2 (some 23) ?v5 rfl rfl hCl ?hy5 (fun hCl => ?_)
            case hy5 => (intro w hSw; refine T.qVal ?_ hSw; (try dsimp only [List.getElem_toArray, List.getElem_cons_succ, List.getElem_cons_zero]); go_simp; try with_reducible rfl)
            simp only [Act.put, T.pa, T.pb, T.pc]
            refine T.qT 6 (some 27) ?v6 rfl rfl hCl ?hy6 (fun hCl => ?_)
            case hy6 => (intro w hSw; refine T.qVal ?_ hSw; (try dsimp only [List.getElem_toArray, List.getElem_cons_succ, List.getElem_cons_zero]); go_simp; try with_reducible rfl)
            simp only [Act.put, T.pa, T.pb, T.pc]
            refine T.qT 3 (some 24) ?v7 rfl rfl hCl ?hy7 (fun hCl => ?_)
            case hy7 => (intro w hSw; refine T.qVal ?_ hSw; (obtain ⟨t1, t2, t3, t4⟩ := HH.out w hSw); (try dsimp only [List.getElem_toArray, List.getElem_cons_succ, List.getElem_cons_zero]); go_simp; try with_reducible rfl)
            simp only [Act.put, T.pa, T.pb, T.pc]
            refine T.qT 7 (some 28) ?v8 rfl rfl hCl ?hy8 (fun hCl => ?_)
            case hy8 => (intro w hSw; refine T.qVal ?_ hSw; (obtain ⟨t1, t2, t3, t4⟩ := HH.out w hSw); (try dsimp only [List.getElem_toArray, List.getElem_cons_succ, List.getElem_cons_zero]); go_simp; try with_reducible rfl)
            simp only [Act.put, T.pa, T.pb, T.pc]
            refine T.qT 8 (some 29) ?v9 rfl rfl hCl ?hy9 (fun hCl => ?_)
            case hy9 => (intro w hSw; refine T.qVal ?_ hSw; (try dsimp only [List.getElem_toArray, List.getElem_cons_succ, List.getElem_cons_zero]); go_simp; try with_reducible rfl)
            simp only [Act.put, T.pa, T.pb, T.pc]
            refine T.tail_intro (by kernel_rfl) (fun Y41 hY41 => ?_)
            replace U := U.trans hY41
            clear hY41
            refine lastG (i := 9) (by kernel_rfl) rfl (by rfl) (by decide) (fun K hK => ?_)
            go_simp
            refine hK.out _ _ ?_
            clear hK K
            refine doneG (by kernel_rfl) ?_ _
            refine S.nrm_intro ?_
            clear HH HLY
            go_wp2_with fail
            go_roundw
            case rel => exact ⟨k + 1, true, by omega, rfl, by go_num, Lib.hid ⟨fun _ => HX.out, fun _ => rfl⟩, U⟩
            case measure => (simp only [intOf]; omega)
          · skip
            have HX := Lib.hid (show false = true ↔ T.akK xs ys (k + 1) from by
              rw [HST.out]
              exact ⟨fun q => Bool.noConfusion q, fun q => absurd q.2.2 h1⟩)
            clear HST HKK
            go_wp2_with fail
            refine (wpIn_wide (n := 5)).1 ?_
            refine wpIn_nrm ?_
            refine T.regionQ (fun w' => Up wr w') 9 1 hmx (by kernel_rfl) (by kernel_rfl) ((Up.refl wr).drew) (fun hCl => ?_)
            refine T.qT 0 (some 21) ?v10 rfl rfl hCl ?hy10 (fun hCl => ?_)
            case hy10 => (intro w hSw; refine T.qVal ?_ hSw; (try dsimp only [List.getElem_toArray, List.getElem_cons_succ, List.getElem_cons_zero]); go_simp; try with_reducible rfl)
            simp only [Act.put, T.pa, T.pb, T.pc]
            refine T.qT 1 (some 22) ?v11 rfl rfl hCl ?hy11 (fun hCl => ?_)
            case hy11 => (intro w hSw; refine T.qVal ?_ hSw; (try dsimp only [List.getElem_toArray, List.getElem_cons_succ, List.getElem_cons_zero]); go_simp; try with_reducible rfl)
            simp only [Act.put, T.pa, T.pb, T.pc]
            refine T.qT 4 (some 25) ?v12 rfl rfl hCl ?hy12 (fun hCl => ?_)
            case hy12 => (intro w hSw; refine T.qVal ?_ hSw; (try dsimp only [List.getElem_toArray, List.getElem_cons_succ, List.getElem_cons_zero]); go_simp; try with_reducible rfl)
            simp only [Act.put, T.pa, T.pb, T.pc]
            refine T.qT 5 (some 26) ?v13 rfl rfl hCl ?hy13 (fun hCl => ?_)
            case hy13 => (intro w hSw; refine T.qVal ?_ hSw; (try dsimp only [List.getElem_toArray, List.getElem_cons_succ, List.getElem_cons_zero]); go_simp; try with_reducible rfl)
            simp only [Act.put, T.pa, T.pb, T.pc]
            refine T.qT 2 (some 23) ?v14 rfl rfl hCl ?hy14 (fun hCl => ?_)
            case hy14 => (intro w hSw; refine T.qVal ?_ hSw; (try dsimp only [List.getElem_toArray, List.getElem_cons_succ, List.getElem_cons_zero]); go_simp; try with_reducible rfl)
            simp only [Act.put, T.pa, T.pb, T.pc]
            refine T.qT 6 (some 27) ?v15 rfl rfl hCl ?hy15 (fun hCl => ?_)
            case hy15 => (intro w hSw; refine T.qVal ?_ hSw; (try dsimp only [List.getElem_toArray, List.getElem_cons_succ, List.getElem_cons_zero]); go_simp; try with_reducible rfl)
            simp only [Act.put, T.pa, T.pb, T.pc]
            refine T.qT 3 (some 24) ?v16 rfl rfl hCl ?hy16 (fun hCl => ?_)
            case hy16 => (intro w hSw; refine T.qVal ?_ hSw; (obtain ⟨t1, t2, t3, t4⟩ := HH.out w hSw); (try dsimp only [List.getElem_toArray, List.getElem_cons_succ, List.getElem_cons_zero]); go_simp; try with_reducible rfl)
            simp only [Act.put, T.pa, T.pb, T.pc]
            refine T.qT 7 (some 28) ?v17 rfl rfl hCl ?hy17 (fun hCl => ?_)
            case hy17 => (intro w hSw; refine T.qVal ?_ hSw; (obtain ⟨t1, t2, t3, t4⟩ := HH.out w hSw); (try dsimp only [List.getElem_toArray, List.getElem_cons_succ, List.getElem_cons_zero]); go_simp; try with_reducible rfl)
            simp only [Act.put, T.pa, T.pb, T.pc]
            refine T.qT 8 (some 29) ?v18 rfl rfl hCl ?hy18 (fun hCl => ?_)
            case hy18 => (intro w hSw; refine T.qVal ?_ hSw; (try dsimp only [List.getElem_toArray, List.getElem_cons_succ, List.getElem_cons_zero]); go_simp; try with_reducible rfl)
            simp only [Act.put, T.pa, T.pb, T.pc]
            refine T.tail_intro (by kernel_rfl) (fun Y61 hY61 => ?_)
            replace U := U.trans hY61
            clear hY61
            refine lastG (i := 9) (by kernel_rfl) rfl (by rfl) (by decide) (fun K hK => ?_)
            go_simp
            refine hK.out _ _ ?_
            clear hK K
            refine doneG (by kernel_rfl) ?_ _
            refine S.nrm_intro ?_
            clear HH HLY
            go_wp2_with fail
            go_roundw
            case rel => exact ⟨k + 1, false, by omega, rfl, by go_num, HX, U⟩
            case measure => (simp only [intOf]; omega)
        · skip
          have HX := Lib.hid (show false = true ↔ T.akK xs ys (k + 1) from by
            rw [HST.out]
            exact ⟨fun q => Bool.noConfusion q, fun q => absurd q.2.1 h0⟩)
          clear HST HKK
          go_wp2_with fail
          refine (wpIn_wide (n := 5)).1 ?_
          refine wpIn_nrm ?_
          refine T.regionQ (fun w' => Up wr w') 9 1 hmx (by kernel_rfl) (by kernel_rfl) ((Up.refl wr).drew) (fun hCl => ?_)
          refine T.qT 0 (some 21) ?v19 rfl rfl hCl ?hy19 (fun hCl => ?_)
          case hy19 => (intro w hSw; refine T.qVal ?_ hSw; (try dsimp only [List.getElem_toArray, List.getElem_cons_succ, List.getElem_cons_zero]); go_simp; try with_reducible rfl)
          simp only [Act.put, T.pa, T.pb, T.pc]
          refine T.qT 1 (some 22) ?v20 rfl rfl hCl ?hy20 (fun hCl => ?_)
          case hy20 => (intro w hSw; refine T.qVal ?_ hSw; (try dsimp only [List.getElem_toArray, List.getElem_cons_succ, List.getElem_cons_zero]); go_simp; try with_reducible rfl)
          simp only [Act.put, T.pa, T.pb, T.pc]
          refine T.qT 4 (some 25) ?v21 rfl rfl hCl ?hy21 (fun hCl => ?_)
          case hy21 => (intro w hSw; refine T.qVal ?_ hSw; (try dsimp only [List.getElem_toArray, List.getElem_cons_succ, List.getElem_cons_zero]); go_simp; try with_reducible rfl)
          simp only [Act.put, T.pa, T.pb, T.pc]
          refine T.qT 5 (some 26) ?v22 rfl rfl hCl ?hy22 (fun hCl => ?_)
          case hy22 => (intro w hSw; refine T.qVal ?_ hSw; (try dsimp only [List.getElem_toArray, List.getElem_cons_succ, List.getElem_cons_zero]); go_simp; try with_reducible rfl)
          simp only [Act.put, T.pa, T.pb, T.pc]
          refine T.qT 2 (some 23) ?v23 rfl rfl hCl ?hy23 (fun hCl => ?_)
          case hy23 => (intro w hSw; refine T.qVal ?_ hSw; (try dsimp only [List.getElem_toArray, List.getElem_cons_succ, List.getElem_cons_zero]); go_simp; try with_reducible rfl)
          simp only [Act.put, T.pa, T.pb, T.pc]
          refine T.qT 6 (some 27) ?v24 rfl rfl hCl ?hy24 (fun hCl => ?_)
          case hy24 => (intro w hSw; refine T.qVal ?_ hSw; (try dsimp only [List.getElem_toArray, List.getElem_cons_succ, List.getElem_cons_zero]); go_simp; try with_reducible rfl)
          simp only [Act.put, T.pa, T.pb, T.pc]
          refine T.qT 3 (some 24) ?v25 rfl rfl hCl ?hy25 (fun hCl => ?_)
          case hy25 => (intro w hSw; refine T.qVal ?_ hSw; (obtain ⟨t1, t2, t3, t4⟩ := HH.out w hSw); (try dsimp only [List.getElem_toArray, List.getElem_cons_succ, List.getElem_cons_zero]); go_simp; try with_reducible rfl)
          simp only [Act.put, T.pa, T.pb, T.pc]
          refine T.qT 7 (some 28) ?v26 rfl rfl hCl ?hy26 (fun hCl => ?_)
          case hy26 => (intro w hSw; refine T.qVal ?_ hSw; (obtain ⟨t1, t2, t3, t4⟩ := HH.out w hSw); (try dsimp only [List.getElem_toArray, List.getElem_cons_succ, List.getElem_cons_zero]); go_simp; try with_reducible rfl)
          simp only [Act.put, T.pa, T.pb, T.pc]
          refine T.qT 8 (some 29) ?v27 rfl rfl hCl ?hy27 (fun hCl => ?_)
          case hy27 => (intro w hSw; refine T.qVal ?_ hSw; (try dsimp only [List.getElem_toArray, List.getElem_cons_succ, List.getElem_cons_zero]); go_simp; try with_reducible rfl)
          simp only [Act.put, T.pa, T.pb, T.pc]
          refine T.tail_intro (by kernel_rfl) (fun Y81 hY81 => ?_)
          replace U := U.trans hY81
          clear hY81
          refine lastG (i := 9) (by kernel_rfl) rfl (by rfl) (by decide) (fun K hK => ?_)
          go_simp
          refine hK.out _ _ ?_
          clear hK K
          refine doneG (by kernel_rfl) ?_ _
          refine S.nrm_intro ?_
          clear HH HLY
          go_wp2_with fail
          go_roundw
          case rel => exact ⟨k + 1, false, by omega, rfl, by go_num, HX, U⟩
          case measure => (simp only [intOf]; omega)
      · obtain rfl : k = xs.length := by omega
        have HE := Lib.hid (T.akK_all.1 (HT.out.1 rfl))
        have dk : decide ((xs.length : Int) < (xs.length : Int)) = false := decide_eq_false (by omega)
        clear HT MA MB
        go_wp2
        go_ret
        exact ⟨by rw [decide_eq_true HE.out]; rfl, U⟩
    | false =>
      have HE := Lib.hid (show ¬ xs = ys from fun e => by
        have h := T.akK_all.2 e
        have := HT.out.2 ⟨h.1, fun j hj => h.2 j (by omega)⟩
        cases this)
      clear HT MA MB
      go_wp2
      go_ret
      exact ⟨by rw [decide_eq_false HE.out]; rfl, U⟩
end

end Go.Proofs.Ytlpkheoljbdajaa

/- What the spans of all say of Same. -/
namespace Go.Proofs.Ytlpkheoljbdajaa
open Go.RowKit Go.Shelf
attribute [local go_sem] Oper.semAt_some
section
variable {bl bh rl rh : Int} {aP aQ aL : Option Addr} {nP cP nQ cQ nL cL : Nat} {ps qs : List (Int × Int)} {ls : List T.T5}
theorem T.rx_th {N np nq : Nat} (h8 : N ≤ 8) (p4 : np ≤ 4) {a : Nat} (ha : a < 1 + N + np + nq) : T.rx N np (T.th N np a) = a := by
  by_cases h1 : a ≤ N
  · rw [T.th_n h1]
    exact T.rx_n (by omega)
  · by_cases h2 : a < 1 + N + np
    · obtain ⟨k, rfl⟩ : ∃ k, a = 1 + N + k := ⟨a - 1 - N, by omega⟩
      rw [T.th_p (by omega)]
      exact T.rx_p (by omega)
    · obtain ⟨k, rfl⟩ : ∃ k, a = 1 + N + np + k := ⟨a - 1 - N - np, by omega⟩
      rw [T.th_q]
      exact T.rx_q
theorem T.alS_eq {M M' : T.Mt} {n : Nat} : T.alS M' n = T.alS M n ↔ ∀ a, a < n → M' a 0 = M a 0 ∧ M' 0 a = M 0 a := by
  unfold T.alS
  constructor
  · intro h a ha
    have q := congrArg (fun l => l[a]?) h
    simp only [List.getElem?_map, List.getElem?_range ha, Option.map_some, Option.some.injEq, Prod.mk.injEq] at q
    omega
  · intro h
    refine List.map_congr_left fun a ha => ?_
    rw [(h a (List.mem_range.1 ha)).1, (h a (List.mem_range.1 ha)).2]
theorem T.st_bit (k j : Nat) : T.st T.o0 k true j = (2 ^ k).testBit j := by
  rw [Nat.testBit_two_pow]
  unfold T.st
  by_cases e : j = k
  · rw [if_pos e, e]; simp
  · rw [if_neg e]; exact (decide_eq_false (fun q => e q.symm)).symm
theorem T.idle_al {N k : Nat} {M M' : T.Mt} (hv : T.valid (N : Int) bl bh rl rh ps qs ls = true) (hx : ∃ y, T.Tr N bl bh rl rh ps qs ls y) (h : T.RefM N bl bh rl rh ps qs ls 0 M) (h' : T.RefM N bl bh rl rh ps qs ls (2 ^ k) M') :
    T.alS M' (1 + N + ps.length + qs.length) = T.alS M (1 + N + ps.length + qs.length) ↔ T.Same (T.web N bl bh rl rh ps qs ls T.o0) (T.web N bl bh rl rh ps qs ls (T.st T.o0 k true)) := by
  have B := T.valid_bok hv
  have n8 := B.n8
  have p4 := B.p4
  rw [T.same_tells hv hx (fun y hy => hy.less (fun _ _ => rfl)), T.alS_eq]
  have r0 : T.rx N ps.length 0 = 0 := T.rx_n (k := 0) (by omega)
  have t1 : ∀ i, T.Alive N ps.length qs.length i → _ := fun i hi => h.tells hv (o := T.o0) (fun k _ => (Nat.zero_testBit k).symm) T.al_0 hi
  have t2 : ∀ i, T.Alive N ps.length qs.length i → _ := fun i hi => h'.tells hv (o := T.st T.o0 k true) (fun j _ => T.st_bit k j) T.al_0 hi
  rw [r0] at t1 t2
  constructor
  · intro e i hi
    have ha := (T.th_rx n8 p4 hi).2
    obtain ⟨e1, e2⟩ := e _ ha
    have q1 := t1 i hi
    have q2 := t2 i hi
    rw [e1, e2] at q2
    exact ⟨_, _, by have := (h _ 0 ha (by omega)).1; omega, q1, q2⟩
  · intro e a ha
    have hi := T.th_al ha
    obtain ⟨l, u, _, u1, u2⟩ := e _ hi
    have q1 := (t1 _ hi).uniq u1
    have q2 := (t2 _ hi).uniq u2
    rw [T.rx_th n8 p4 ha] at q1 q2
    omega
end

end Go.Proofs.Ytlpkheoljbdajaa

/- What the reference's Wrong holds on its way: the first of the fewest so far, all looks at its beginning. -/
namespace Go.Proofs.Ytlpkheoljbdajaa
open Go.RowKit

theorem T.lex_ahd2 {s t : Nat → Bool} {n : Nat} (h : T.Lex s t) (ht : ∀ c, n ≤ c → s c = false) (e : T.cnt t 0 n = T.cnt s 0 n) : T.ahd (T.lst s n) (T.lst t n) = true := by
  obtain ⟨c, h1, h2, h3⟩ := h
  have hc : c < n := by
    by_cases q : c < n
    · exact q
    · have := ht c (by omega)
      rw [h2] at this
      cases this
  obtain ⟨B, b1, b2⟩ := T.lst_more s (c + 1) n (by omega)
  obtain ⟨C, c1, c2⟩ := T.lst_more t (c + 1) n (by omega)
  rw [T.lst_yes h2, T.lst_same h1] at b1
  rw [T.lst_no h3] at c1
  have l1 := T.lst_cnt s n
  have l2 := T.lst_cnt t n
  rw [b1, List.length_append, List.length_append, List.length_singleton] at l1
  rw [c1, List.length_append] at l2
  generalize T.lst t c = A at *
  cases C with
  | nil => simp at l2; omega
  | cons x C =>
    have hx := c2 x List.mem_cons_self
    have hne : ¬ (c : Int) = x := by omega
    rw [b1, c1, List.append_assoc]
    have e1 : D.first (A ++ ([(c : Int)] ++ B)) (A ++ x :: C) = A.length := by
      rw [T.first_app]
      show A.length + (if (c : Int) = x then _ else 0) = _
      rw [if_neg hne]
      rfl
    unfold T.ahd
    rw [e1, if_pos (by constructor <;> simp)]
    rw [List.getD_eq_getElem?_getD, List.getD_eq_getElem?_getD, List.getElem?_append_right (Nat.le_refl _), List.getElem?_append_right (Nat.le_refl _), Nat.sub_self]
    exact decide_eq_true (show (c : Int) < x by omega)
theorem T.of_bits : ∀ (n : Nat) (s : Nat → Bool), ∃ z, z < 2 ^ n ∧ ∀ k, k < n → z.testBit k = s k
  | 0, s => ⟨0, by decide, fun k hk => absurd hk (Nat.not_lt_zero k)⟩
  | n + 1, s => by
    obtain ⟨z, hz, h⟩ := T.of_bits n (fun k => s (k + 1))
    refine ⟨2 * z + (if s 0 = true then 1 else 0), ?_, fun k hk => ?_⟩
    · rw [Nat.pow_succ]
      split <;> omega
    · cases k with
      | zero =>
        rw [Nat.testBit_zero]
        cases s 0
        · exact decide_eq_false (by simp)
        · exact decide_eq_true (by simp only [if_pos]; omega)
      | succ k =>
        rw [Nat.testBit_succ, show (2 * z + (if s 0 = true then 1 else 0)) / 2 = z by split <;> omega]
        exact h k (by omega)
/-- the looks of a set, as a list -/
def T.zl (n z : Nat) : List Int := T.lst (fun k => z.testBit k) n
/-- the set that is looked for: the first of the fewest -/
def T.rwZ (P : Nat → Bool) (n s : Nat) : Prop := s < 2 ^ n ∧ P s = true ∧ ∀ t, t < 2 ^ n → P t = true → t ≠ s →
  (T.zl n s).length < (T.zl n t).length ∨ ((T.zl n s).length = (T.zl n t).length ∧ T.ahd (T.zl n s) (T.zl n t) = true ∧ T.ahd (T.zl n t) (T.zl n s) = false)
/-- what is held, before a set is looked at -/
def T.rwJ (P : Nat → Bool) (n s z t0 : Nat) : Prop := t0 < 2 ^ n ∧ P t0 = true ∧ (s < z → t0 = s)
section
variable {P : Nat → Bool} {n s z t0 : Nat}
theorem T.rwJ.no (Z : T.rwZ P n s) (h : T.rwJ P n s z t0) (hp : P z = false) : T.rwJ P n s (z + 1) t0 := by
  obtain ⟨h1, h2, h3⟩ := h
  refine ⟨h1, h2, fun hs => ?_⟩
  by_cases e : s = z
  · rw [← e, Z.2.1] at hp
    cases hp
  · exact h3 (by omega)
theorem T.rwJ.skip (Z : T.rwZ P n s) (h : T.rwJ P n s z t0) (hk : (T.zl n t0).length < (T.zl n z).length ∨ ((T.zl n z).length = (T.zl n t0).length ∧ T.ahd (T.zl n z) (T.zl n t0) = false)) : T.rwJ P n s (z + 1) t0 := by
  obtain ⟨h1, h2, h3⟩ := h
  refine ⟨h1, h2, fun hs => ?_⟩
  by_cases e : s = z
  · by_cases e2 : t0 = s
    · exact e2
    · subst e
      rcases Z.2.2 t0 h1 h2 e2 with a | ⟨a, b, _⟩
      · omega
      · rcases hk with hk | ⟨_, hk⟩
        · omega
        · rw [b] at hk; cases hk
  · exact h3 (by omega)
theorem T.rwJ.put (Z : T.rwZ P n s) (hz : z < 2 ^ n) (h : T.rwJ P n s z t0) (hp : P z = true) (hk : (T.zl n z).length < (T.zl n t0).length ∨ ((T.zl n z).length = (T.zl n t0).length ∧ T.ahd (T.zl n z) (T.zl n t0) = true)) : T.rwJ P n s (z + 1) z := by
  obtain ⟨h1, h2, h3⟩ := h
  refine ⟨hz, hp, fun hs => ?_⟩
  by_cases e : s = z
  · exact e.symm
  · have e2 := h3 (by omega)
    subst e2
    rcases Z.2.2 z hz hp (fun q => e q.symm) with a | ⟨a, _, b⟩
    · omega
    · rcases hk with hk | ⟨_, hk⟩
      · omega
      · rw [b] at hk; cases hk
end
section
variable {N : Nat} {bl bh rl rh : Int} {ps qs : List (Int × Int)} {ls : List T.T5}
/-- can the book be true without the looks of a set? -/
noncomputable def T.zc (N : Nat) (bl bh rl rh : Int) (ps qs : List (Int × Int)) (ls : List T.T5) (z : Nat) : Bool := T.canP N bl bh rl rh ps qs ls (fun k => z.testBit k)
theorem T.zc_iff (hv : T.valid N bl bh rl rh ps qs ls = true) {z : Nat} : T.zc N bl bh rl rh ps qs ls z = true ↔ ∃ y, T.Tru N bl bh rl rh ps qs ls (fun k => z.testBit k) y := T.canP_tru hv
theorem T.zc_full (hv : T.valid N bl bh rl rh ps qs ls = true) : T.zc N bl bh rl rh ps qs ls (2 ^ ls.length - 1) = true :=
  (T.zc_iff hv).2 ⟨_, T.low_tru hv (fun k hk => by rw [Nat.testBit_two_pow_sub_one]; exact decide_eq_true hk)⟩
theorem T.few_z (hv : T.valid N bl bh rl rh ps qs ls = true) : ∃ s, T.rwZ (T.zc N bl bh rl rh ps qs ls) ls.length s ∧ T.lst (T.fewS (T.canP N bl bh rl rh ps qs ls) ls.length) 10 = T.zl ls.length s := by
  obtain ⟨f1, f2⟩ := T.few_is (P := T.canP N bl bh rl rh ps qs ls) (many := ls.length)
  have l10 := (T.valid_bok hv).l10
  have hb : ∀ t : Nat, t < 2 ^ ls.length → ∀ c, ls.length ≤ c → (fun k => t.testBit k) c = false := fun t ht c hc => Nat.testBit_lt_two_pow (Nat.lt_of_lt_of_le ht (Nat.pow_le_pow_right (by decide) hc))
  cases hf : T.few (T.canP N bl bh rl rh ps qs ls) ls.length 0 with
  | none =>
    have := f1 hf _ (hb (2 ^ ls.length - 1) (by have := Nat.pow_pos (n := ls.length) (show 0 < 2 by decide); omega))
    have q := T.zc_full hv
    unfold T.zc at q
    rw [this] at q
    cases q
  | some s =>
    obtain ⟨g1, g2, g3⟩ := f2 s hf
    obtain ⟨z, hz, hzs⟩ := T.of_bits ls.length s
    have e : s = fun k => z.testBit k := by
      funext k
      by_cases hk : k < ls.length
      · exact (hzs k hk).symm
      · rw [g1 k (by omega)]
        exact (hb z hz k (by omega)).symm
    subst e
    refine ⟨z, ⟨hz, g2, fun t ht hp hne => ?_⟩, ?_⟩
    · obtain ⟨c1, c2⟩ := g3 _ (hb t ht) hp
      unfold T.zl
      rw [T.lst_cnt, T.lst_cnt]
      by_cases hc : T.cnt (fun k => t.testBit k) 0 ls.length = T.cnt (fun k => z.testBit k) 0 ls.length
      · rcases c2 hc with q | q
        · exact absurd (Nat.eq_of_testBit_eq fun i => congrFun q i) hne
        · exact .inr ⟨hc.symm, T.lex_ahd2 q g1 hc, T.lex_ahd q g1 hc⟩
      · exact .inl (by omega)
    · unfold T.fewS
      rw [hf]
      have := T.lst_hi g1 (10 - ls.length)
      rwa [show ls.length + (10 - ls.length) = 10 by omega] at this
end

end Go.Proofs.Ytlpkheoljbdajaa

/- The contract of the reference's Wrong. -/
namespace Go.Proofs.Ytlpkheoljbdajaa
open Go.RowKit Go.Shelf
attribute [local go_sem] Oper.semAt_some
section
variable {bl bh rl rh : Int} {aP aQ aL : Option Addr} {nP cP nQ cQ nL cL : Nat} {ps qs : List (Int × Int)} {ls : List T.T5}
/-- a list that is held in memory -/
def T.rwB (w : World) (v : Value) (l : List Int) : Prop := (∃ a c, v = .slice a l.length c) ∧ Ints w v l
theorem T.shl_rw : ∀ n : Nat, n ≤ 10 → IntKind.i64.wrap (2 ^ n) = 2 ^ n := by decide
set_option maxRecDepth 100000 in
set_option maxHeartbeats 1000000 in
theorem r_Wrong_bad {w : World} {M : Int} (I : Sps w (.slice aP nP cP) ps) (J : Sps w (.slice aQ nQ cQ) qs) (K : Lks w (.slice aL nL cL) ls) (hv : T.valid M bl bh rl rh ps qs ls = false) :
    Calls Try.prog 32 #[BoV M bl bh rl rh (.slice aP nP cP) (.slice aQ nQ cQ) (.slice aL nL cL)] w fun e w' => e = .returned (.tuple #[.slice none 0 0, .int .i64 30]) ∧ Up w w' := by
  have HC := Lib.hid (fun w' (u : Up w w') => r_Check_any (M := M) (bl := bl) (bh := bh) (rl := rl) (rh := rh) (I.up u) (J.up u) (K.up u))
  have U := (Up.refl w).alloc (.cells (BoC M bl bh rl rh (.slice aP nP cP) (.slice aQ nQ cQ) (.slice aL nL cL)) 27)
  clear I J K
  go_enter Try.func32, Try.ntmps32
  go_wp2_with fail
  refine (HC.out _ U).mono ?_
  rintro e x1 ⟨rfl, u⟩
  rw [if_neg (by rw [hv]; decide)]
  replace U := U.trans u
  clear u HC hv
  go_wp2
  go_ret2
  exact ⟨rfl, U⟩
set_option maxRecDepth 100000 in
set_option maxHeartbeats 8000000 in
set_option linter.unusedSimpArgs false in
theorem r_Wrong_ok {w : World} {N : Nat} (I : Sps w (.slice aP nP cP) ps) (J : Sps w (.slice aQ nQ cQ) qs) (K : Lks w (.slice aL nL cL) ls) (hv : T.valid (N : Int) bl bh rl rh ps qs ls = true) :
    Calls Try.prog 32 #[BoV (N : Int) bl bh rl rh (.slice aP nP cP) (.slice aQ nQ cQ) (.slice aL nL cL)] w fun e w' => (∃ v, e = .returned (.tuple #[v, .int .i64 0]) ∧ Ints w' v (T.lst (T.fewS (T.canP N bl bh rl rh ps qs ls) ls.length) 10)) ∧ Up w w' := by
  have hn := I.len
  have hno := J.len
  have hnp := K.len
  subst hn hno hnp
  obtain ⟨s, Z, hfew⟩ := T.few_z hv
  have l10 : ls.length ≤ 10 := (T.valid_bok hv).l10
  have HC := Lib.hid (fun w' (u : Up w w') => show Calls Try.prog 20 #[BoV (N : Int) bl bh rl rh (.slice aP ps.length cP) (.slice aQ qs.length cQ) (.slice aL ls.length cL)] w' fun e w'' => e = .returned (.int .i64 0) ∧ Up w' w'' by have q := r_Check_any (M := (N : Int)) (bl := bl) (bh := bh) (rl := rl) (rh := rh) (I.up u) (J.up u) (K.up u); rw [if_pos hv] at q; exact q)
  have HSa := Lib.hid (fun w' (u : Up w w') (z : Nat) (hz : z < 1024) => r_said_any (I.up u) (J.up u) (K.up u) hv hz)
  have HV := Lib.hid hv
  have h0 := T.zc_full hv
  obtain ⟨P, hP⟩ : ∃ P, T.zc N bl bh rl rh ps qs ls = P := ⟨_, rfl⟩
  have HP := Lib.hid hP
  rw [hP] at Z h0
  have hP0 := Lib.hid h0
  have h2n : 0 < 2 ^ ls.length ∧ 2 ^ ls.length ≤ 1024 := ⟨Nat.pow_pos (by decide), Nat.le_trans (Nat.pow_le_pow_right (n := 2) (by decide) l10) (by decide)⟩
  have HZ := Lib.hid Z
  have HF := Lib.hid hfew
  have wz : IntKind.i64.wrap (2 ^ ls.length) = 2 ^ ls.length := T.shl_rw _ (by omega)
  obtain ⟨two, htwo⟩ : ∃ x : Nat, 2 ^ ls.length = x := ⟨_, rfl⟩
  have etwo : (2 : Int) ^ ls.length = (two : Int) := by rw [← htwo]; simp
  have HT := Lib.hid htwo
  rw [htwo] at h2n hP0
  have wt : IntKind.i64.wrap (two : Int) = (two : Int) := IntWalk.i64_in _ (by omega)
  obtain ⟨full, hfull⟩ : ∃ x : Nat, two - 1 = x := ⟨_, rfl⟩
  have wf : IntKind.i64.wrap ((two : Int) - 1) = (full : Int) := by rw [show (two : Int) - 1 = (full : Int) by omega]; exact IntWalk.i64_in _ (by omega)
  rw [hfull] at hP0
  have hft : full < two := by omega
  clear I J K Z hfew hv hP htwo h0 hfull
  go_enter Try.func32, Try.ntmps32
  obtain ⟨q0, e0⟩ : ∃ x, w.heap.size = x := ⟨_, rfl⟩
  have U := (Up.refl w).alloc (.cells (BoC (N : Int) bl bh rl rh (.slice aP ps.length cP) (.slice aQ qs.length cQ) (.slice aL ls.length cL)) 27)
  have kB := blk_new w (.cells (BoC (N : Int) bl bh rl rh (.slice aP ps.length cP) (.slice aQ qs.length cQ) (.slice aL ls.length cL)) 27) q0 e0.symm
  go_wp2_with fail
  refine (HC.out _ U).mono ?_
  rintro e x1 ⟨rfl, u2⟩
  replace U := U.trans u2
  replace kB := u2.blk kB
  clear u2 HC
  have HL0 := Lib.hid (fun w => B_List_any full ls.length (by omega) l10 w)
  go_wp2_with fail
  refine (HL0.out _).mono ?_
  rintro e x3 ⟨⟨vl, rfl, IL0⟩, u4⟩
  replace U := U.trans u4
  replace kB := u4.blk kB
  clear u4 HL0
  have HB0 := Lib.hid (show T.rwB x3 vl (T.zl ls.length full) from by
    obtain ⟨a, c, e, _⟩ := IL0.is
    exact ⟨⟨a, c, e⟩, IL0⟩)
  clear IL0
  go_wp2_with fail
  go_loopw [6, 7] (fun b i wr => ∃ (z t0 : Nat), z ≤ two ∧ i = .int .i64 z ∧ Up w wr ∧ mblk wr q0 = some (.cells (BoC (N : Int) bl bh rl rh (.slice aP ps.length cP) (.slice aQ qs.length cQ) (.slice aL ls.length cL)) 27 (0, 0)) ∧ Hid (T.rwJ P ls.length s z t0) ∧ Hid (T.rwB wr b (T.zl ls.length t0))) (fun _ i _ => two - (intOf i).toNat)
  case atStart => exact ⟨0, full, Nat.zero_le _, rfl, U, kB, Lib.hid ⟨by rw [HT.out]; exact hft, hP0.out, fun h => by omega⟩, HB0⟩
  case round =>
    clear U kB HB0
    obtain ⟨z, t0, hz, rfl, U, kB, HR, HB⟩ := hrel
    by_cases hlt : z < two
    · skip
      have dz : decide ((z : Int) < (two : Int)) = true := decide_eq_true (by omega)
      have ilt : (z : Int) < (two : Int) := by omega
      have ew : IntKind.i64.wrap ((z : Int) + 1) = (z : Int) + 1 := IntWalk.i64_in _ (by omega)
      have HL := Lib.hid (fun w => B_List_any z ls.length (by omega) l10 w)
      have Uz := Up.refl wr
      go_wp2_with fail
      refine (HL.out _).mono ?_
      rintro e x21 ⟨⟨vl, rfl, IL0⟩, u22⟩
      replace U := U.trans u22
      replace kB := u22.blk kB
      replace Uz := Uz.trans u22
      clear u22 HL
      have IL : Ints x21 vl (T.zl ls.length z) := IL0
      clear IL0
      obtain ⟨al, cl, rfl, _, _, _⟩ := IL.is
      have hz2 : z < 2 ^ ls.length := by rw [HT.out]; exact hlt
      obtain ⟨n2, hn2⟩ : ∃ x, (T.zl ls.length z).length = x := ⟨_, rfl⟩
      have HIL := Lib.hid (fun w' (u : Up x21 w') => IL.up u)
      rw [hn2] at HIL ⊢
      have HN2 := Lib.hid hn2
      have HZ2 := Lib.hid hz2
      clear IL hn2 hz2
      obtain ⟨⟨ab, cb, rfl⟩, IB⟩ : (∃ a c, u6 = .slice a (T.zl ls.length t0).length c) ∧ Ints wr u6 (T.zl ls.length t0) := HB.out
      have HIB := Lib.hid (fun w' (u : Up wr w') => IB.up u)
      obtain ⟨n1, hn1⟩ : ∃ x, (T.zl ls.length t0).length = x := ⟨_, rfl⟩
      rw [hn1] at HIB HB ⊢
      have HN1 := Lib.hid hn1
      have Ux := Up.refl x21
      clear IB hn1
      rcases Nat.lt_trichotomy n2 n1 with c | c | c
      · skip
        have d1 : decide ((n2 : Int) > (n1 : Int)) = false := decide_eq_false (by omega)
        have d2 : ((n2 : Int) == (n1 : Int)) = false := by rw [beq_eq_false_iff_ne]; omega
        have i1 : ¬ (n1 : Int) < (n2 : Int) := by omega
        have e1 : decide (n1 < n2) = false := decide_eq_false (by omega)
        have e2 : (n2 == n1) = false := by rw [beq_eq_false_iff_ne]; omega
        go_wp2_with fail
        refine (HSa.out _ U z (by omega)).mono ?_
        rintro e y100 ⟨⟨g, D, rw, Mm, hD, rfl, HM, hr, HI⟩, u⟩
        have HCl := Lib.hid (r_closed_book HV.out hD u HM hr HI)
        clear HM hr HI
        have HDD := Lib.hid hD
        clear hD
        have kB0 := kB
        clear u kB
        go_wp2_with fail
        refine HCl.out.mono ?_
        rintro e y100' ⟨⟨M', rfl, _, h2⟩ | ⟨rfl, h1⟩, u⟩
        · skip
          have hp : P z = true := by
            rw [← HP.out]
            have hD := HDD.out
            obtain ⟨_, _, y, hy, _⟩ := h2 0 0 (by omega) (by omega)
            exact (T.zc_iff HV.out).2 (T.ref_some HV.out (fun k _ => rfl) hy)
          replace U := U.trans u
          replace Uz := Uz.trans u
          replace Ux := Ux.trans u
          have kB := u.blk kB0
          clear u h2 HCl HDD kB0
          have HR2 := Lib.hid (show T.rwJ P ls.length s (z + 1) z from HR.out.put HZ.out HZ2.out hp (by rw [HN2.out, HN1.out]; exact .inl c))
          have HB2 := Lib.hid (show T.rwB y100' (Value.slice al n2 cl) (T.zl ls.length z) from ⟨⟨al, cl, by rw [HN2.out]⟩, HIL.out _ Ux⟩)
          clear HR HB
          go_wp2_with fail
          go_roundw
          case rel => exact ⟨z + 1, z, by omega, by go_num, U, kB, HR2, HB2⟩
          case measure => (simp only [intOf]; omega)
        · skip
          have hp : P z = false := by
            rw [← HP.out, ← Bool.not_eq_true]
            intro q
            obtain ⟨y, hy⟩ := (T.zc_iff HV.out).1 q
            exact T.ref_none (o := fun k => z.testBit k) HV.out (fun k _ => rfl) h1 y hy
          replace U := U.trans u
          replace Uz := Uz.trans u
          replace Ux := Ux.trans u
          have kB := u.blk kB0
          clear u h1 HCl HDD kB0
          have HR2 := Lib.hid (show T.rwJ P ls.length s (z + 1) t0 from HR.out.no HZ.out hp)
          have HB2 := Lib.hid (show T.rwB y100' (Value.slice ab n1 cb) (T.zl ls.length t0) from ⟨⟨ab, cb, by rw [HN1.out]⟩, HIB.out _ Uz⟩)
          clear HR HB
          go_wp2_with fail
          go_roundw
          case rel => exact ⟨z + 1, t0, by omega, by go_num, U, kB, HR2, HB2⟩
          case measure => (simp only [intOf]; omega)
      · skip
        have HEq := Lib.hid c
        have d1 : decide ((n2 : Int) > (n1 : Int)) = false := decide_eq_false (by omega)
        have d2 : ((n2 : Int) == (n1 : Int)) = true := by rw [beq_iff_eq]; omega
        have i1 : ¬ (n1 : Int) < (n2 : Int) := by omega
        have e1 : decide (n1 < n2) = false := decide_eq_false (by omega)
        have e2 : (n2 == n1) = true := by rw [beq_iff_eq]; omega
        have hah : n1 = n2 := c.symm
        subst hah
        clear c
        obtain ⟨bv, hbv⟩ : ∃ x, T.ahd (T.zl ls.length z) (T.zl ls.length t0) = x := ⟨_, rfl⟩
        have HAh := Lib.hid hbv
        have CA := Lib.hid (fun w' (u : Up x21 w') (u2 : Up wr w') => show Calls Try.prog 50 #[.slice al n1 cl, .slice ab n1 cb] w' fun e w'' => e = .returned (.bool bv) ∧ Up w' w'' by have q := B_Ahead_any (HIL.out _ u) (HIB.out _ u2); rw [hbv] at q; exact q)
        clear hbv
        go_wp2_with fail
        refine (CA.out _ Ux Uz).mono ?_
        rintro e x141 ⟨rfl, u142⟩
        replace U := U.trans u142
        replace kB := u142.blk kB
        replace Uz := Uz.trans u142
        replace Ux := Ux.trans u142
        clear u142 CA
        cases bv with
        | false =>
          have HR2 := Lib.hid (show T.rwJ P ls.length s (z + 1) t0 from HR.out.skip HZ.out (.inr ⟨by rw [HN2.out, HN1.out], HAh.out⟩))
          have HB2 := Lib.hid (show T.rwB x141 (Value.slice ab n1 cb) (T.zl ls.length t0) from ⟨⟨ab, cb, by rw [HN1.out]⟩, HIB.out _ Uz⟩)
          clear HR HB
          go_wp2_with fail
          go_roundw
          case rel => exact ⟨z + 1, t0, by omega, by go_num, U, kB, HR2, HB2⟩
          case measure => (simp only [intOf]; omega)
        | true =>
          go_wp2_with fail
          refine (HSa.out _ U z (by omega)).mono ?_
          rintro e y180 ⟨⟨g, D, rw, Mm, hD, rfl, HM, hr, HI⟩, u⟩
          have HCl := Lib.hid (r_closed_book HV.out hD u HM hr HI)
          clear HM hr HI
          have HDD := Lib.hid hD
          clear hD
          have kB0 := kB
          clear u kB
          go_wp2_with fail
          refine HCl.out.mono ?_
          rintro e y180' ⟨⟨M', rfl, _, h2⟩ | ⟨rfl, h1⟩, u⟩
          · skip
            have hp : P z = true := by
              rw [← HP.out]
              have hD := HDD.out
              obtain ⟨_, _, y, hy, _⟩ := h2 0 0 (by omega) (by omega)
              exact (T.zc_iff HV.out).2 (T.ref_some HV.out (fun k _ => rfl) hy)
            replace U := U.trans u
            replace Uz := Uz.trans u
            replace Ux := Ux.trans u
            have kB := u.blk kB0
            clear u h2 HCl HDD kB0
            have HR2 := Lib.hid (show T.rwJ P ls.length s (z + 1) z from HR.out.put HZ.out HZ2.out hp (by rw [HN2.out, HN1.out]; exact .inr ⟨rfl, HAh.out⟩))
            have HB2 := Lib.hid (show T.rwB y180' (Value.slice al n1 cl) (T.zl ls.length z) from ⟨⟨al, cl, by rw [HN2.out]⟩, HIL.out _ Ux⟩)
            clear HR HB
            go_wp2_with fail
            go_roundw
            case rel => exact ⟨z + 1, z, by omega, by go_num, U, kB, HR2, HB2⟩
            case measure => (simp only [intOf]; omega)
          · skip
            have hp : P z = false := by
              rw [← HP.out, ← Bool.not_eq_true]
              intro q
              obtain ⟨y, hy⟩ := (T.zc_iff HV.out).1 q
              exact T.ref_none (o := fun k => z.testBit k) HV.out (fun k _ => rfl) h1 y hy
            replace U := U.trans u
            replace Uz := Uz.trans u
            replace Ux := Ux.trans u
            have kB := u.blk kB0
            clear u h1 HCl HDD kB0
            have HR2 := Lib.hid (show T.rwJ P ls.length s (z + 1) t0 from HR.out.no HZ.out hp)
            have HB2 := Lib.hid (show T.rwB y180' (Value.slice ab n1 cb) (T.zl ls.length t0) from ⟨⟨ab, cb, by rw [HN1.out]⟩, HIB.out _ Uz⟩)
            clear HR HB
            go_wp2_with fail
            go_roundw
            case rel => exact ⟨z + 1, t0, by omega, by go_num, U, kB, HR2, HB2⟩
            case measure => (simp only [intOf]; omega)
      · skip
        have d1 : decide ((n2 : Int) > (n1 : Int)) = true := decide_eq_true (by omega)
        have i1 : (n1 : Int) < (n2 : Int) := by omega
        have e1 : decide (n1 < n2) = true := decide_eq_true (by omega)
        have HCC := Lib.hid c
        clear c
        have HR2 := Lib.hid (show T.rwJ P ls.length s (z + 1) t0 from HR.out.skip HZ.out (.inl (by rw [HN2.out, HN1.out]; exact HCC.out)))
        have HB2 := Lib.hid (show T.rwB x21 (Value.slice ab n1 cb) (T.zl ls.length t0) from ⟨⟨ab, cb, by rw [HN1.out]⟩, HIB.out _ Uz⟩)
        clear HR HB
        go_wp2_with fail
        go_roundw
        case rel => exact ⟨z + 1, t0, by omega, by go_num, U, kB, HR2, HB2⟩
        case measure => (simp only [intOf]; omega)
    · skip
      have hzt : two = z := by omega
      have dz : decide ((z : Int) < (two : Int)) = false := decide_eq_false (by omega)
      have inz : ¬ (z : Int) < (two : Int) := by omega
      have hts : t0 = s := HR.out.2.2 (by rw [← hzt, ← HT.out]; exact HZ.out.1)
      have HFin := Lib.hid (show Ints wr u6 (T.lst (T.fewS (T.canP N bl bh rl rh ps qs ls) ls.length) 10) by rw [HF.out, ← hts]; exact HB.out.2)
      clear hts hzt HR HB
      go_wp2
      go_ret2
      exact ⟨⟨_, rfl, HFin.out⟩, U⟩
end

end Go.Proofs.Ytlpkheoljbdajaa

/- The contract of the reference's Worst. -/
namespace Go.Proofs.Ytlpkheoljbdajaa
open Go.RowKit Go.Shelf
attribute [local go_sem] Oper.semAt_some
section
variable {bl bh rl rh : Int} {aP aQ aL : Option Addr} {nP cP nQ cQ nL cL : Nat} {ps qs : List (Int × Int)} {ls : List T.T5}
/-- what the reference's Worst answers -/
def T.RWorst (N : Nat) (bl bh rl rh : Int) (ps qs : List (Int × Int)) (ls : List T.T5) (a b c : Int) : Prop :=
  (c = 32 ∧ a = 0 ∧ b = 0 ∧ ∀ y, ¬ T.Tr N bl bh rl rh ps qs ls y) ∨ ∃ lo hi : Nat → Int, (∀ k, k < N → T.Tells (T.Tr N bl bh rl rh ps qs ls) 0 (1 + (k : Int)) (lo k) (hi k) 0) ∧ (a, b, c) = T.wr (fun k => hi k - lo k) N
set_option maxRecDepth 100000 in
set_option maxHeartbeats 1000000 in
theorem r_Worst_bad {w : World} {M : Int} (I : Sps w (.slice aP nP cP) ps) (J : Sps w (.slice aQ nQ cQ) qs) (K : Lks w (.slice aL nL cL) ls) (hv : T.valid M bl bh rl rh ps qs ls = false) :
    Calls Try.prog 37 #[BoV M bl bh rl rh (.slice aP nP cP) (.slice aQ nQ cQ) (.slice aL nL cL)] w fun e w' => e = .returned (.tuple #[.int .i64 0, .int .i64 0, .int .i64 30]) ∧ Up w w' := by
  have HC := Lib.hid (fun w' (u : Up w w') => r_asked_err (r := true) (M := M) (bl := bl) (bh := bh) (rl := rl) (rh := rh) (I.up u) (J.up u) (K.up u) (.inl ⟨hv, rfl⟩))
  have U := (Up.refl w).alloc (.cells (BoC M bl bh rl rh (.slice aP nP cP) (.slice aQ nQ cQ) (.slice aL nL cL)) 27)
  clear I J K hv
  go_enter Try.func37, Try.ntmps37
  go_wp2_with fail
  refine (HC.out _ U).mono ?_
  rintro e x1 ⟨rfl, u⟩
  replace U := U.trans u
  clear u HC
  go_wp2
  go_ret3
  exact ⟨rfl, U⟩
set_option maxRecDepth 100000 in
set_option maxHeartbeats 8000000 in
set_option linter.unusedSimpArgs false in
theorem r_Worst_ok {w : World} {N : Nat} (I : Sps w (.slice aP nP cP) ps) (J : Sps w (.slice aQ nQ cQ) qs) (K : Lks w (.slice aL nL cL) ls) (hv : T.valid (N : Int) bl bh rl rh ps qs ls = true) :
    Calls Try.prog 37 #[BoV (N : Int) bl bh rl rh (.slice aP nP cP) (.slice aQ nQ cQ) (.slice aL nL cL)] w fun e w' => (∃ a b c, e = .returned (.tuple #[.int .i64 a, .int .i64 b, .int .i64 c]) ∧ T.RWorst N bl bh rl rh ps qs ls a b c) ∧ Up w w' := by
  have hmx : Try.prog.follows .mixedOrders = true := by kernel_rfl
  have hn := I.len
  have hno := J.len
  have hnp := K.len
  subst hn hno hnp
  have n8 := (T.valid_bok hv).n8
  have HA := Lib.hid (fun w' (u : Up w w') => r_asked_ok (bl := bl) (bh := bh) (rl := rl) (rh := rh) (I.up u) (J.up u) (K.up u) hv)
  have HV := Lib.hid hv
  obtain ⟨q0, e0⟩ : ∃ x, w.heap.size = x := ⟨_, rfl⟩
  have U := (Up.refl w).alloc (.cells (BoC (N : Int) bl bh rl rh (.slice aP ps.length cP) (.slice aQ qs.length cQ) (.slice aL ls.length cL)) 27)
  have kB := blk_new w (.cells (BoC (N : Int) bl bh rl rh (.slice aP ps.length cP) (.slice aQ qs.length cQ) (.slice aL ls.length cL)) 27) q0 e0.symm
  clear I J K hv
  go_enter Try.func37, Try.ntmps37
  go_wp2_with fail
  refine (HA.out _ U).mono ?_
  rintro e x1 ⟨⟨g, D, rw, Mm, hD, rfl, HM, HF⟩ | ⟨rfl, hno⟩, u⟩
  · have HMx := Lib.hid (fun w' (u : Up x1 w') => HM.up u)
    have HT := Lib.hid (fun k (hk : k < N) => HF.tells HV.out (o := T.o0) (m := 0) (i := 1 + (k : Int)) (fun k _ => (Nat.zero_testBit k).symm) T.al_0 (T.al_night (n := (k : Int)) ⟨by omega, by omega⟩))
    have HBt := Lib.hid (fun w' (u : Up x1 w') k (hk : k < N) => show ∃ x y, (-600000 ≤ x ∧ x ≤ 600000) ∧ (-600000 ≤ y ∧ y ≤ 600000) ∧ Mm (1 + k) 0 = x ∧ Mm 0 (1 + k) = y ∧ Calls Try.prog 67 #[.slice (some ⟨g, 0, none⟩) D D, .int .i64 0, .int .i64 ((1 + k : Nat) : Int)] w' fun e w'' => e = .returned (SpV (-x) y) ∧ Up w' w'' from
      ⟨_, _, (HF (1 + k) 0 (by omega) (by omega)).1, (HF 0 (1 + k) (by omega) (by omega)).1, rfl, rfl, r_between_any (a := 0) (b := 1 + k) (HMx.out w' u) (by omega) (by omega) (by have := (HF (1 + k) 0 (by omega) (by omega)).1; omega)⟩)
    obtain ⟨wd, hwd⟩ : ∃ f : Nat → Int, (fun k : Nat => Mm 0 (1 + k) - -(Mm (1 + k) 0)) = f := ⟨_, rfl⟩
    have HW := Lib.hid hwd
    replace U := U.trans u
    replace kB := u.blk kB
    have Ux := Up.refl x1
    clear u HA hD HM HF HMx hwd
    go_wp2_with fail
    go_loopw [7, 8, 9] (fun b l i wr => ∃ k : Nat, k ≤ N ∧ i = .int .i64 k ∧ b = .int .i64 (T.wst wd k).1 ∧ l = .int .i64 (T.wst wd k).2 ∧ Up w wr ∧ Up x1 wr ∧ mblk wr q0 = some (.cells (BoC (N : Int) bl bh rl rh (.slice aP ps.length cP) (.slice aQ qs.length cQ) (.slice aL ls.length cL)) 27 (0, 0))) (fun _ _ i _ => N - (intOf i).toNat)
    case atStart => exact ⟨0, Nat.zero_le _, rfl, rfl, rfl, U, Ux, kB⟩
    case round =>
      clear U Ux kB
      obtain ⟨k, hk, rfl, rfl, rfl, U, Ux, kB⟩ := hrel
      by_cases hlt : k < N
      · skip
        have HN := Lib.hid (show T.wst wd (k + 1) = if (T.wst wd k).2 < wd k then (k, wd k) else T.wst wd k from rfl)
        have hwk : wd k = Mm 0 (1 + k) - -(Mm (1 + k) 0) := by rw [← HW.out]
        obtain ⟨x, y, hx, hy, ex, ey, _⟩ := HBt.out wr Ux k hlt
        have CB := Lib.hid (fun w' (u : Up x1 w') => show Calls Try.prog 67 #[.slice (some ⟨g, 0, none⟩) D D, .int .i64 0, .int .i64 (1 + (k : Int))] w' fun e w'' => e = .returned (SpV (-x) y) ∧ Up w' w'' by
          obtain ⟨x', y', _, _, ex', ey', h⟩ := HBt.out w' u k hlt
          rw [← ex, ← ey, ex', ey', show (1 : Int) + (k : Int) = ((1 + k : Nat) : Int) by omega]
          exact h)
        rw [ex, ey] at hwk
        rw [hwk, Int.sub_neg] at HN
        clear hwk ex ey
        generalize T.wst wd k = st at *
        obtain ⟨b, l⟩ := st
        have w1 : IntKind.i64.wrap (1 + (k : Int)) = 1 + (k : Int) := IntWalk.i64_in _ (by omega)
        have w2 : IntKind.i64.wrap ((k : Int) + 1) = (k : Int) + 1 := IntWalk.i64_in _ (by omega)
        obtain ⟨d, hd⟩ : ∃ z, y + x = z := ⟨_, rfl⟩
        have wd2 : IntKind.i64.wrap (y + x) = d := by rw [← hd]; exact IntWalk.i64_in _ (by omega)
        rw [hd] at HN
        have ilt : (k : Int) < (N : Int) := by omega
        have dlt : decide ((k : Int) < (N : Int)) = true := decide_eq_true ilt
        clear hx hy hd
        go_wp2_with fail
        refine (CB.out _ Ux).mono ?_
        rintro e x21 ⟨rfl, u22⟩
        replace U := U.trans u22
        replace kB := u22.blk kB
        replace Ux := Ux.trans u22
        clear u22 CB
        by_cases hl : l < d
        · skip
          have dl : decide (d > l) = true := decide_eq_true hl
          rw [if_pos hl] at HN
          have dkBkS := blk_lt kB
          have gkS := U.size
          have kS := blk_new x21 (.cells #[.int .i64 (-x), .int .i64 y] 23) _ rfl
          replace kB := blk_keep (.cells #[.int .i64 (-x), .int .i64 y] 23) kB
          replace U := U.alloc (.cells #[.int .i64 (-x), .int .i64 y] 23)
          replace Ux := Ux.alloc (.cells #[.int .i64 (-x), .int .i64 y] 23)
          obtain ⟨pkS, hpkS⟩ : ∃ z, x21.heap.size = z := ⟨_, rfl⟩
          obtain ⟨W61, hW61⟩ : ∃ z, x21.alloc (.cells #[.int .i64 (-x), .int .i64 y] 23) = z := ⟨_, rfl⟩
          rw [hpkS] at kS dkBkS gkS
          rw [hW61] at kS U kB Ux
          go_wp2_with fail
          clear hpkS hW61
          have F63 := Lib.hid (fun w (u : Up W61 w) => cellB (u.blk kB))
          have F64 := Lib.hid (fun w (u : Up W61 w) => cellB (u.blk kS))
          refine (wpIn_wide (n := 5)).1 ?_
          refine wpIn_nrm ?_
          refine T.regionQ (fun w' => Up W61 w') 7 1 hmx (by kernel_rfl) (by kernel_rfl) ((Up.refl W61).drew) (fun hCl => ?_)
          refine T.qT 0 (some 36) ?v28 rfl rfl hCl ?hy28 (fun hCl => ?_)
          case hy28 => (intro w hSw; refine T.qVal ?_ hSw; (try dsimp only [List.getElem_toArray, List.getElem_cons_succ, List.getElem_cons_zero]); go_simp; try with_reducible rfl)
          simp only [Act.put, T.pa, T.pb, T.pc]
          refine T.qT 1 (some 37) ?v29 rfl rfl hCl ?hy29 (fun hCl => ?_)
          case hy29 => (intro w hSw; refine T.qVal ?_ hSw; (try dsimp only [List.getElem_toArray, List.getElem_cons_succ, List.getElem_cons_zero]); go_simp; try with_reducible rfl)
          simp only [Act.put, T.pa, T.pb, T.pc]
          refine T.qT 3 (some 39) ?v30 rfl rfl hCl ?hy30 (fun hCl => ?_)
          case hy30 => (intro w hSw; refine T.qVal ?_ hSw; (try dsimp only [List.getElem_toArray, List.getElem_cons_succ, List.getElem_cons_zero]); go_simp; try with_reducible rfl)
          simp only [Act.put, T.pa, T.pb, T.pc]
          refine T.qT 2 (some 38) ?v31 rfl rfl hCl ?hy31 (fun hCl => ?_)
          case hy31 => (intro w hSw; refine T.qVal ?_ hSw; (have fF63 := F63.out w hSw; have fF64 := F64.out w hSw); (try dsimp only [List.getElem_toArray, List.getElem_cons_succ, List.getElem_cons_zero]); go_simp; try with_reducible rfl)
          simp only [Act.put, T.pa, T.pb, T.pc]
          refine T.qT 4 (some 40) ?v32 rfl rfl hCl ?hy32 (fun hCl => ?_)
          case hy32 => (intro w hSw; refine T.qVal ?_ hSw; (have fF63 := F63.out w hSw; have fF64 := F64.out w hSw); (try dsimp only [List.getElem_toArray, List.getElem_cons_succ, List.getElem_cons_zero]); go_simp; try with_reducible rfl)
          simp only [Act.put, T.pa, T.pb, T.pc]
          refine T.qT 6 (some 7) ?v33 rfl rfl hCl ?hy33 (fun hCl => ?_)
          case hy33 => (intro w hSw; refine T.qVal ?_ hSw; (try dsimp only [List.getElem_toArray, List.getElem_cons_succ, List.getElem_cons_zero]); go_simp; try with_reducible rfl)
          simp only [Act.put, T.pa, T.pb, T.pc]
          refine T.qT 5 (some 41) ?v34 rfl rfl hCl ?hy34 (fun hCl => ?_)
          case hy34 => (intro w hSw; refine T.qVal ?_ hSw; (try dsimp only [List.getElem_toArray, List.getElem_cons_succ, List.getElem_cons_zero]); go_simp; try with_reducible rfl)
          simp only [Act.put, T.pa, T.pb, T.pc]
          refine T.tail_intro (by kernel_rfl) (fun Y62 hY62 => ?_)
          replace U := U.trans hY62
          replace kB := hY62.blk kB
          replace kS := hY62.blk kS
          replace Ux := Ux.trans hY62
          clear F63 F64 hY62
          refine lastG (i := 7) (by kernel_rfl) rfl (by rfl) (by decide) (fun K hK => ?_)
          go_simp
          refine hK.out _ _ ?_
          clear hK K
          refine doneG (by kernel_rfl) ?_ _
          refine S.nrm_intro ?_
          go_wp2_with fail
          go_roundw
          case rel => exact ⟨k + 1, by omega, by go_num, by rw [HN.out], by rw [HN.out], U, Ux, kB⟩
          case measure => (simp only [intOf]; omega)
        · skip
          have dl : decide (d > l) = false := decide_eq_false hl
          rw [if_neg hl] at HN
          have dkBkS := blk_lt kB
          have gkS := U.size
          have kS := blk_new x21 (.cells #[.int .i64 (-x), .int .i64 y] 23) _ rfl
          replace kB := blk_keep (.cells #[.int .i64 (-x), .int .i64 y] 23) kB
          replace U := U.alloc (.cells #[.int .i64 (-x), .int .i64 y] 23)
          replace Ux := Ux.alloc (.cells #[.int .i64 (-x), .int .i64 y] 23)
          obtain ⟨pkS, hpkS⟩ : ∃ z, x21.heap.size = z := ⟨_, rfl⟩
          obtain ⟨W81, hW81⟩ : ∃ z, x21.alloc (.cells #[.int .i64 (-x), .int .i64 y] 23) = z := ⟨_, rfl⟩
          rw [hpkS] at kS dkBkS gkS
          rw [hW81] at kS U kB Ux
          go_wp2_with fail
          clear hpkS hW81
          go_roundw
          case rel => exact ⟨k + 1, by omega, by go_num, by rw [HN.out], by rw [HN.out], U, Ux, kB⟩
          case measure => (simp only [intOf]; omega)
      · skip
        obtain rfl : k = N := by omega
        have dlt : decide ((k : Int) < (k : Int)) = false := decide_eq_false (by omega)
        have HR := Lib.hid (fun a b c (h : (a, b, c) = T.wr wd k) => show T.RWorst k bl bh rl rh ps qs ls a b c from .inr ⟨fun j => -(Mm (1 + j) 0), fun j => Mm 0 (1 + j), fun j hj => by
            have t := HT.out j hj
            rw [show T.rx k ps.length 0 = 0 from T.rx_n (k := 0) (by omega), show T.rx k ps.length (1 + (j : Int)) = 1 + j from (T.rx_1 (by omega)).trans (Nat.add_comm _ _)] at t
            exact t, by rw [HW.out]; exact h⟩)
        unfold T.wr at HR
        generalize T.wst wd k = st at *
        obtain ⟨b, l⟩ := st
        clear HT HBt HW
        by_cases hl : l = 0
        · subst hl
          have HR2 := Lib.hid (HR.out 0 0 4 (by rw [if_pos rfl]))
          go_wp2
          go_ret3
          exact ⟨⟨0, 0, 4, rfl, HR2.out⟩, U⟩
        · have hl2 : (l == 0) = false := beq_eq_false_iff_ne.2 hl
          have HR2 := Lib.hid (HR.out b l 0 (by rw [if_neg hl]))
          go_wp2
          go_ret3
          exact ⟨⟨_, _, 0, rfl, HR2.out⟩, U⟩
  · replace U := U.trans u
    have HNo := Lib.hid hno
    clear u HA hno
    go_wp2
    go_ret3
    exact ⟨⟨0, 0, 32, rfl, .inl ⟨rfl, rfl, rfl, HNo.out⟩⟩, U⟩
end

end Go.Proofs.Ytlpkheoljbdajaa

/- The contract of the reference's Idle. -/
namespace Go.Proofs.Ytlpkheoljbdajaa
open Go.RowKit Go.Shelf
attribute [local go_sem] Oper.semAt_some
section
variable {bl bh rl rh : Int} {aP aQ aL : Option Addr} {nP cP nQ cQ nL cL : Nat} {ps qs : List (Int × Int)} {ls : List T.T5}
set_option maxRecDepth 100000 in
set_option maxHeartbeats 1000000 in
theorem r_Idle_bad {w : World} {M : Int} (I : Sps w (.slice aP nP cP) ps) (J : Sps w (.slice aQ nQ cQ) qs) (K : Lks w (.slice aL nL cL) ls) (hv : T.valid M bl bh rl rh ps qs ls = false) :
    Calls Try.prog 35 #[BoV M bl bh rl rh (.slice aP nP cP) (.slice aQ nQ cQ) (.slice aL nL cL)] w fun e w' => e = .returned (.tuple #[.slice none 0 0, .int .i64 30]) ∧ Up w w' := by
  have HC := Lib.hid (fun w' (u : Up w w') => r_asked_err (r := true) (M := M) (bl := bl) (bh := bh) (rl := rl) (rh := rh) (I.up u) (J.up u) (K.up u) (.inl ⟨hv, rfl⟩))
  have U := (Up.refl w).alloc (.cells (BoC M bl bh rl rh (.slice aP nP cP) (.slice aQ nQ cQ) (.slice aL nL cL)) 27)
  clear I J K hv
  go_enter Try.func35, Try.ntmps35
  go_wp2_with fail
  refine (HC.out _ U).mono ?_
  rintro e x1 ⟨rfl, u⟩
  replace U := U.trans u
  clear u HC
  go_wp2
  go_ret2
  exact ⟨rfl, U⟩
set_option maxRecDepth 100000 in
set_option maxHeartbeats 8000000 in
set_option linter.unusedSimpArgs false in
theorem r_Idle_ok {w : World} {N : Nat} (I : Sps w (.slice aP nP cP) ps) (J : Sps w (.slice aQ nQ cQ) qs) (K : Lks w (.slice aL nL cL) ls) (hv : T.valid (N : Int) bl bh rl rh ps qs ls = true) :
    Calls Try.prog 35 #[BoV (N : Int) bl bh rl rh (.slice aP nP cP) (.slice aQ nQ cQ) (.slice aL nL cL)] w fun e w' => ((e = .returned (.tuple #[.slice none 0 0, .int .i64 32]) ∧ ∀ y, ¬ T.Tr N bl bh rl rh ps qs ls y) ∨ ((∃ y, T.Tr N bl bh rl rh ps qs ls y) ∧ ∃ v s, e = .returned (.tuple #[v, .int .i64 0]) ∧ Ints w' v (T.lst s 10) ∧ ∀ j, s j = true ↔ (j < ls.length ∧ T.Same (T.web N bl bh rl rh ps qs ls T.o0) (T.web N bl bh rl rh ps qs ls (T.st T.o0 j true))))) ∧ Up w w' := by
  have hmx : Try.prog.follows .mixedOrders = true := by kernel_rfl
  have hn := I.len
  have hno := J.len
  have hnp := K.len
  subst hn hno hnp
  have BK := T.valid_bok hv
  have n8 := BK.n8
  have p4 := BK.p4
  have q4 := BK.q4
  have l10 := BK.l10
  have HA := Lib.hid (fun w' (u : Up w w') => r_asked_ok (bl := bl) (bh := bh) (rl := rl) (rh := rh) (I.up u) (J.up u) (K.up u) hv)
  have HSa := Lib.hid (fun w' (u : Up w w') (z : Nat) (hz : z < 1024) => r_said_any (I.up u) (J.up u) (K.up u) hv hz)
  have HV := Lib.hid hv
  obtain ⟨s, hs⟩ : ∃ s : Nat → Bool, ∀ j, s j = true ↔ (j < ls.length ∧ T.Same (T.web N bl bh rl rh ps qs ls T.o0) (T.web N bl bh rl rh ps qs ls (T.st T.o0 j true))) := ⟨fun j => @decide (j < ls.length ∧ T.Same (T.web N bl bh rl rh ps qs ls T.o0) (T.web N bl bh rl rh ps qs ls (T.st T.o0 j true))) (Classical.propDecidable _), fun j => by simp⟩
  have HSS := Lib.hid hs
  obtain ⟨q0, e0⟩ : ∃ x, w.heap.size = x := ⟨_, rfl⟩
  have U := (Up.refl w).alloc (.cells (BoC (N : Int) bl bh rl rh (.slice aP ps.length cP) (.slice aQ qs.length cQ) (.slice aL ls.length cL)) 27)
  have kB := blk_new w (.cells (BoC (N : Int) bl bh rl rh (.slice aP ps.length cP) (.slice aQ qs.length cQ) (.slice aL ls.length cL)) 27) q0 e0.symm
  clear I J K hv BK hs
  go_enter Try.func35, Try.ntmps35
  go_wp2_with fail
  refine (HA.out _ U).mono ?_
  rintro e x1 ⟨⟨g, D, rw, Mm, hD, rfl, HM, HF⟩ | ⟨rfl, hno⟩, u⟩
  · have HMx := Lib.hid (fun w' (u : Up x1 w') => HM.up u)
    have hx : ∃ y, T.Tr N bl bh rl rh ps qs ls y := by
      obtain ⟨_, _, y, hy, _⟩ := HF 0 0 (by omega) (by omega)
      exact T.ref_some (o := T.o0) HV.out (fun k _ => (Nat.zero_testBit k).symm) hy
    have HX := Lib.hid hx
    have HRF := Lib.hid HF
    have HDD := Lib.hid hD
    have D17 : D ≤ 17 := by omega
    have HAl := Lib.hid (fun w' (u : Up x1 w') => r_all_any (HMx.out w' u) D17 (fun a ha => (HF a 0 (by omega) (by omega)).1))
    replace U := U.trans u
    replace kB := u.blk kB
    have Ux := Up.refl x1
    clear u HA hD HM HF hx
    go_wp2_with fail
    obtain ⟨q, hq⟩ : ∃ x, x1.heap.size = x := ⟨_, rfl⟩
    have hq1 : q ≤ x1.heap.size := by omega
    have hqB := blk_lt kB
    rw [hq] at hqB
    have HQ := Lib.hid (show x1.heap.size ≤ q by omega)
    clear hq
    go_loopw [6, 7] (fun v i wr => ∃ k : Nat, k ≤ ls.length ∧ i = .int .i64 k ∧ Up w wr ∧ Up x1 wr ∧ mblk wr q0 = some (.cells (BoC (N : Int) bl bh rl rh (.slice aP ps.length cP) (.slice aQ qs.length cQ) (.slice aL ls.length cL)) 27 (0, 0)) ∧ wr.ownsRow q 3 1 v (T.lst s k).length ((T.lst s k).map (Value.int .i64)) ∧ q ≤ wr.heap.size) (fun _ i _ => ls.length - (intOf i).toNat)
    case atStart => exact ⟨0, Nat.zero_le _, rfl, U, Ux, kB, by show x1.ownsRow q 3 1 (.slice none 0 0) 0 []; exact World.ownsRow_nil _ _ _ _, hq1⟩
    case round =>
      clear U Ux kB hq1
      obtain ⟨k, hk, rfl, U, Ux, kB, hown, hq2⟩ := hrel
      by_cases hlt : k < ls.length
      · have ew : IntKind.i64.wrap ((k : Int) + 1) = (k : Int) + 1 := IntWalk.i64_in _ (by omega)
        have dlt : decide ((k : Int) < (ls.length : Int)) = true := decide_eq_true (by omega)
        have ilt : (k : Int) < (ls.length : Int) := by omega
        obtain ⟨z, hz⟩ : ∃ z : Nat, 2 ^ k = z := ⟨_, rfl⟩
        have ez : (2 : Int) ^ k = (z : Int) := by rw [← hz]; simp
        have hz2 : z < 1024 := by
          rw [← hz]
          exact Nat.lt_of_lt_of_le (Nat.pow_lt_pow_right (a := 2) (by decide) (show k < 10 by omega)) (by decide)
        have wz : IntKind.i64.wrap (z : Int) = (z : Int) := IntWalk.i64_in _ (by omega)
        have HZ := Lib.hid hz
        have HO := Lib.hid hown
        have UX := Lib.hid Ux
        have Ur := Up.refl wr
        clear hz hown Ux
        go_wp2_with fail
        refine (wpIn_wide (n := 5)).1 ?_
        refine wpIn_nrm ?_
        refine regionG (fun w' => Up wr w' ∧ Up w w' ∧ mblk w' q0 = some (.cells (BoC (N : Int) bl bh rl rh (.slice aP ps.length cP) (.slice aQ qs.length cQ) (.slice aL ls.length cL)) 27 (0, 0))) 4 hmx ⟨Ur.drew, U.drew, (by rw [blk_drew]; exact kB)⟩ (fun hHeld hCl => ?_)
        refine T.gT 0 (some 24) ?v35 rfl rfl hCl (by assumption) ?hy35 (fun hCl => ?_)
        case hy35 => ((intro w hSw; (try dsimp only at hSw); (try go_split_ands); go_simp); try with_reducible rfl)
        simp only [Act.put, T.pa, T.pb, T.pc]
        refine T.gT 1 (some 25) ?v36 rfl rfl hCl (by assumption) ?hy36 (fun hCl => ?_)
        case hy36 => ((intro w hSw; (try dsimp only at hSw); (try go_split_ands); go_simp); try with_reducible rfl)
        simp only [Act.put, T.pa, T.pb, T.pc]
        refine T.gT 2 (some 26) ?v37 rfl rfl hCl (by assumption) ?hy37 (fun hCl => ?_)
        case hy37 => ((intro w hSw; (try dsimp only at hSw); (try go_split_ands); go_simp); try with_reducible rfl)
        simp only [Act.put, T.pa, T.pb, T.pc]
        refine nextG (i := 3) (by kernel_rfl) rfl (by rfl) hCl (fun K hK => ?_)
        go_simp
        refine ⟨trivial, (callsIn_wide.2 (HSa.out _ hHeld.2.1 z hz2)).mono ?_⟩
        rintro e' X1 ⟨⟨g2, D2, rw2, M2, hD2, rfl, HM2, hr2, HI2⟩, u⟩
        have HCl := Lib.hid (r_closed_book HV.out hD2 u HM2 hr2 HI2)
        have HD2 := Lib.hid hD2
        clear HM2 hr2 HI2 hD2
        refine hK.out _ _ ⟨hHeld.1.trans u, hHeld.2.1.trans u, u.blk hHeld.2.2⟩ (fun hHeld hCl => ?_)
        clear hK K
        try dsimp only [List.getElem_toArray, List.getElem_cons_succ, List.getElem_cons_zero]
        try simp only [Act.put, List.setIfInBounds_toArray, List.set_cons_zero, List.set_cons_succ]
        refine lastG (i := 4) (by kernel_rfl) rfl (by rfl) (by decide) (fun K hK => ?_)
        go_simp
        refine hK.out _ _ ?_
        clear hK K
        refine doneG (by kernel_rfl) ?_ _
        refine S.nrm_intro ?_
        clear hHeld hCl
        have HK2 := Lib.hid (show mblk wr.drew q0 = some (.cells (BoC (N : Int) bl bh rl rh (.slice aP ps.length cP) (.slice aQ qs.length cQ) (.slice aL ls.length cL)) 27 (0, 0)) from by rw [blk_drew]; exact kB)
        have HU2 := Lib.hid U.drew
        have HV2 := Lib.hid Ur.drew
        clear u U kB Ur
        go_wp2_with fail
        refine HCl.out.mono ?_
        rintro e X2 ⟨⟨M2', rfl, HM3, HR3⟩ | ⟨rfl, h1⟩, u⟩
        · obtain rfl : D2 = D := HD2.out.trans HDD.out.symm
          rw [← HZ.out] at HR3
          have HEq := Lib.hid (show T.alS M2' D2 = T.alS Mm D2 ↔ s k = true from by
            rw [HSS.out k, HDD.out, T.idle_al HV.out HX.out HRF.out HR3]
            exact ⟨fun q => ⟨hlt, q⟩, fun q => q.2⟩)
          have HA2 := Lib.hid (fun w' (u : Up X2 w') => r_all_any (HM3.up u) D17 (fun a ha => (HR3 a 0 (by have := HDD.out; omega) (by omega)).1))
          have UC := Lib.hid u
          have Uy := Up.refl X2
          have HW1 := Lib.hid ((HU2.out).trans u)
          have HW2 := Lib.hid ((UX.out.trans HV2.out).trans u)
          have HW3 := Lib.hid (u.blk HK2.out)
          have HW4 := Lib.hid (row_up HO.out (HV2.out.trans u))
          have hqz : q ≤ X2.heap.size := by have := (HV2.out.trans u).size; omega
          clear HM3 HR3 u HCl HD2 HO HV2 HU2 HK2 UC
          go_wp2_with fail
          refine (HA2.out _ Uy).mono ?_
          rintro e X3 ⟨⟨v1, rfl, I1⟩, u1⟩
          have HI1 := Lib.hid I1
          have H13 := Lib.hid u1
          clear I1 u1 HA2 Uy
          go_wp2_with fail
          refine (HAl.out _ (HW2.out.trans H13.out)).mono ?_
          rintro e X4 ⟨⟨v2, rfl, I2⟩, u2⟩
          have HI2 := Lib.hid I2
          have H14 := Lib.hid u2
          clear I2 u2
          go_wp2_with fail
          refine (B_AlikeSpans_any (HI1.out.up H14.out) HI2.out).mono ?_
          rintro e X5 ⟨rfl, u3⟩
          have U3 := (H13.out.trans H14.out).trans u3
          have U := HW1.out.trans U3
          have Ux := HW2.out.trans U3
          have kB := U3.blk HW3.out
          have hown := row_up HW4.out U3
          have hq5 : q ≤ X5.heap.size := by have := U3.size; omega
          clear HI1 HI2 H13 H14 u3 U3 HW1 HW2 HW3 HW4 hq2 hqz
          by_cases hal : T.alS M2' D2 = T.alS Mm D2
          · rw [decide_eq_true hal]
            have HN := Lib.hid (T.lst_yes (HEq.out.1 hal))
            have HU := Lib.hid U
            have HUx := Lib.hid Ux
            have HkB := Lib.hid kB
            have HO := Lib.hid hown
            have hll := T.lst_len s k
            clear hal HEq U Ux kB
            obtain ⟨i0, hi, hz0, hz1, hz3⟩ := info_parts Try.infoInt
            have hUn := Try.underlying28
            go_wp2_with (at_builtin; refine wpList_append_own _ rfl (.tmp 37) (.tmp 39) 28 rfl q 3 i0 (.int .i64 0) 1 8 hUn hi hz0 hz1 hz3 rfl (by decide) _ (T.lst s k).length _ rfl (hown.alloc _) ⟨X5.heap.size, 0, none⟩ 1 1 [.int .i64 k] rfl rfl (cell_one_new _ _ _) (by simp [Value.oneCell']) (by unfold maxLen; omega) (by omega) (by simp; omega) ?_; intro v' w6 hown6 hgrow6 hv6; have kB6 := grown_blk hgrow6 (blk_keep (.cells #[.int .i64 (k : Int)] 3) HkB.out) (row_block hown (by omega)))
            go_roundw
            case rel => exact ⟨k + 1, by omega, by go_num, (HU.out.alloc _).grown hgrow6 (fun b e => by have := row_base HO.out b e; omega), (HUx.out.alloc _).grown hgrow6 (fun b e => by have := row_base HO.out b e; have := HQ.out; omega), kB6, by rw [HN.out, List.length_append, List.map_append]; exact hown6, by have := hgrow6.size; rw [sz1] at this; omega⟩
            case measure => (simp only [intOf]; omega)
          · rw [decide_eq_false hal]
            have HN := Lib.hid (T.lst_no (s := s) (k := k) (by rw [← Bool.not_eq_true]; exact fun q => hal (HEq.out.2 q)))
            have HO := Lib.hid hown
            clear hal HEq hown
            go_wp2_with fail
            go_roundw
            case rel => exact ⟨k + 1, by omega, by go_num, U, Ux, kB, by rw [HN.out]; exact HO.out, hq5⟩
            case measure => (simp only [intOf]; omega)
        · exfalso
          obtain ⟨y, hy⟩ := HX.out
          exact T.ref_none (o := T.st T.o0 k true) HV.out (fun j _ => by rw [← HZ.out]; exact T.st_bit k j) h1 y (hy.less (fun _ _ => rfl))
      · have hin : decide ((k : Int) < (ls.length : Int)) = false := decide_eq_false (by omega)
        have ilt : ¬ (k : Int) < (ls.length : Int) := by omega
        obtain rfl : k = ls.length := by omega
        have HU := Lib.hid U
        have HO := Lib.hid hown
        have hll := T.lst_len s ls.length
        clear hown U Ux hlt hk HMx HAl HSa HRF
        go_wp2
        go_ret2
        refine ⟨.inr ⟨HX.out, _, rfl, s, ?_, HSS.out⟩, HU.out⟩
        have e10 : ∀ m, T.lst s (ls.length + m) = T.lst s ls.length := fun m => by
          induction m with
          | zero => rfl
          | succ m ih => rw [← Nat.add_assoc, T.lst_no (by rw [← Bool.not_eq_true]; intro q; have := ((HSS.out _).1 q).1; omega), ih]
        have e := e10 (10 - ls.length)
        rw [show ls.length + (10 - ls.length) = 10 by omega] at e
        rw [e]
        rcases HO.out.2 with ⟨rfl, hn⟩ | ⟨g, cap, cur, rfl, hg, hcu, hnc, hcm, hcz, hcc⟩
        · rw [List.eq_nil_of_length_eq_zero hn]
          exact Ints.nil _
        · refine Ints.new hcu hnc (by unfold maxLen at hcm; omega) fun j hj => ?_
          have h1 : cur.toList[j]? = (cur.toList.take ((T.lst s ls.length).length * 1))[j]? := by rw [List.getElem?_take, if_pos (by omega)]
          rw [← Array.getElem?_toList, h1, hcc, List.getElem?_map, List.getElem?_eq_getElem hj, List.getD_eq_getElem?_getD, List.getElem?_eq_getElem hj]
          rfl
  · replace U := U.trans u
    have HNo := Lib.hid hno
    clear u HA HSa hno
    go_wp2
    go_ret2
    exact ⟨.inl ⟨rfl, HNo.out⟩, U⟩
end

end Go.Proofs.Ytlpkheoljbdajaa

/- Wrong, Idle and Worst of both packages tell the same. -/
namespace Go.Proofs.Ytlpkheoljbdajaa
open Go.RowKit Go.Shelf
attribute [local go_sem] Oper.semAt_some

section
variable {bl bh rl rh : Int} {aP aQ aL : Option Addr} {nP cP nQ cQ nL cL : Nat} {ps qs : List (Int × Int)} {ls : List T.T5}
theorem T.both_Wrong {w : World} (M : Int) (I : Sps w (.slice aP nP cP) ps) (J : Sps w (.slice aQ nQ cQ) qs) (K : Lks w (.slice aL nL cL) ls) : ∃ (l : List Int) (er : Int), ∀ w', Up w w' → (Calls Try.prog 31 #[BoV M bl bh rl rh (.slice aP nP cP) (.slice aQ nQ cQ) (.slice aL nL cL)] w' fun e w'' => (∃ v, e = .returned (.tuple #[v, .int .i64 er]) ∧ Ints w'' v l) ∧ Up w' w'') ∧ (Calls Try.prog 32 #[BoV M bl bh rl rh (.slice aP nP cP) (.slice aQ nQ cQ) (.slice aL nL cL)] w' fun e w'' => (∃ v, e = .returned (.tuple #[v, .int .i64 er]) ∧ Ints w'' v l) ∧ Up w' w'') := by
  cases hv : T.valid M bl bh rl rh ps qs ls with
  | false => exact ⟨[], 30, fun w' u => ⟨(Wrong_bad (I.up u) (J.up u) (K.up u) hv).mono fun e w'' ⟨h, u2⟩ => ⟨⟨_, h, Ints.nil _⟩, u2⟩, (r_Wrong_bad (I.up u) (J.up u) (K.up u) hv).mono fun e w'' ⟨h, u2⟩ => ⟨⟨_, h, Ints.nil _⟩, u2⟩⟩⟩
  | true =>
    obtain ⟨N, rfl⟩ := T.valid_N hv
    exact ⟨_, 0, fun w' u => ⟨Wrong_ok (I.up u) (J.up u) (K.up u) hv, r_Wrong_ok (I.up u) (J.up u) (K.up u) hv⟩⟩
theorem T.both_Idle {w : World} (M : Int) (I : Sps w (.slice aP nP cP) ps) (J : Sps w (.slice aQ nQ cQ) qs) (K : Lks w (.slice aL nL cL) ls) : ∃ (l : List Int) (er : Int), ∀ w', Up w w' → (Calls Try.prog 34 #[BoV M bl bh rl rh (.slice aP nP cP) (.slice aQ nQ cQ) (.slice aL nL cL)] w' fun e w'' => (∃ v, e = .returned (.tuple #[v, .int .i64 er]) ∧ Ints w'' v l) ∧ Up w' w'') ∧ (Calls Try.prog 35 #[BoV M bl bh rl rh (.slice aP nP cP) (.slice aQ nQ cQ) (.slice aL nL cL)] w' fun e w'' => (∃ v, e = .returned (.tuple #[v, .int .i64 er]) ∧ Ints w'' v l) ∧ Up w' w'') := by
  cases hv : T.valid M bl bh rl rh ps qs ls with
  | false => exact ⟨[], 30, fun w' u => ⟨(Idle_bad (I.up u) (J.up u) (K.up u) hv).mono fun e w'' ⟨h, u2⟩ => ⟨⟨_, h, Ints.nil _⟩, u2⟩, (r_Idle_bad (I.up u) (J.up u) (K.up u) hv).mono fun e w'' ⟨h, u2⟩ => ⟨⟨_, h, Ints.nil _⟩, u2⟩⟩⟩
  | true =>
    obtain ⟨N, rfl⟩ := T.valid_N hv
    have B := T.valid_bok hv
    by_cases hx : ∃ y, T.Tr N bl bh rl rh ps qs ls y
    · obtain ⟨s, hs⟩ : ∃ s : Nat → Bool, ∀ j, s j = true ↔ (j < ls.length ∧ T.Same (T.web N bl bh rl rh ps qs ls T.o0) (T.web N bl bh rl rh ps qs ls (T.st T.o0 j true))) := ⟨fun j => @decide (j < ls.length ∧ T.Same (T.web N bl bh rl rh ps qs ls T.o0) (T.web N bl bh rl rh ps qs ls (T.st T.o0 j true))) (Classical.propDecidable _), fun j => by simp⟩
      have same : ∀ s' : Nat → Bool, (∀ j, s' j = true ↔ (j < ls.length ∧ T.Same (T.web N bl bh rl rh ps qs ls T.o0) (T.web N bl bh rl rh ps qs ls (T.st T.o0 j true)))) → s' = s := fun s' h => funext fun j => Bool.eq_iff_iff.2 ((h j).trans (hs j).symm)
      refine ⟨T.lst s 10, 0, fun w' u => ⟨(Idle_ok (I.up u) (J.up u) (K.up u) hv).mono ?_, (r_Idle_ok (I.up u) (J.up u) (K.up u) hv).mono ?_⟩⟩
      · rintro e w'' ⟨⟨_, hno⟩ | ⟨_, v, s', h1, h2, h3⟩, u2⟩
        · obtain ⟨y, hy⟩ := hx
          exact absurd ((T.sat_tru B).2 hy) (hno y)
        · obtain rfl := same s' h3
          exact ⟨⟨v, h1, h2⟩, u2⟩
      · rintro e w'' ⟨⟨_, hno⟩ | ⟨_, v, s', h1, h2, h3⟩, u2⟩
        · obtain ⟨y, hy⟩ := hx
          exact absurd hy (hno y)
        · obtain rfl := same s' h3
          exact ⟨⟨v, h1, h2⟩, u2⟩
    · refine ⟨[], 32, fun w' u => ⟨(Idle_ok (I.up u) (J.up u) (K.up u) hv).mono ?_, (r_Idle_ok (I.up u) (J.up u) (K.up u) hv).mono ?_⟩⟩
      · rintro e w'' ⟨⟨h, _⟩ | ⟨⟨y, hy⟩, _⟩, u2⟩
        · exact ⟨⟨_, h, Ints.nil _⟩, u2⟩
        · exact absurd ⟨y, (T.sat_tru B).1 hy⟩ hx
      · rintro e w'' ⟨⟨h, _⟩ | ⟨hy, _⟩, u2⟩
        · exact ⟨⟨_, h, Ints.nil _⟩, u2⟩
        · exact absurd hy hx
theorem T.both_Worst {w : World} (M : Int) (I : Sps w (.slice aP nP cP) ps) (J : Sps w (.slice aQ nQ cQ) qs) (K : Lks w (.slice aL nL cL) ls) : ∃ a b c : Int, ∀ w', Up w w' → (Calls Try.prog 36 #[BoV M bl bh rl rh (.slice aP nP cP) (.slice aQ nQ cQ) (.slice aL nL cL)] w' fun e w'' => (e = .returned (.tuple #[.int .i64 a, .int .i64 b, .int .i64 c])) ∧ Up w' w'') ∧ (Calls Try.prog 37 #[BoV M bl bh rl rh (.slice aP nP cP) (.slice aQ nQ cQ) (.slice aL nL cL)] w' fun e w'' => (e = .returned (.tuple #[.int .i64 a, .int .i64 b, .int .i64 c])) ∧ Up w' w'') := by
  cases hv : T.valid M bl bh rl rh ps qs ls with
  | false => exact ⟨0, 0, 30, fun w' u => ⟨Worst_bad (I.up u) (J.up u) (K.up u) hv, r_Worst_bad (I.up u) (J.up u) (K.up u) hv⟩⟩
  | true =>
    obtain ⟨N, rfl⟩ := T.valid_N hv
    have B := T.valid_bok hv
    have n1 := B.n1
    by_cases hx : ∃ y, T.Tr N bl bh rl rh ps qs ls y
    · obtain ⟨⟨a, b, c⟩, hq⟩ : ∃ q : Int × Int × Int, T.wr (fun k => (T.tl (T.Tr N bl bh rl rh ps qs ls) 0 (1 + (k : Int))).2 - (T.tl (T.Tr N bl bh rl rh ps qs ls) 0 (1 + (k : Int))).1) N = q := ⟨_, rfl⟩
      refine ⟨a, b, c, fun w' u => ⟨(Worst_ok (I.up u) (J.up u) (K.up u) hv).mono ?_, (r_Worst_ok (I.up u) (J.up u) (K.up u) hv).mono ?_⟩⟩
      · rintro e w'' ⟨⟨a', b', c', h, hw⟩, u2⟩
        have q := (T.worst_wr hv hx hw).trans hq
        injection q with q1 q2
        injection q2 with q2 q3
        subst q1 q2 q3
        exact ⟨h, u2⟩
      · rintro e w'' ⟨⟨a', b', c', h, ⟨_, _, _, hno⟩ | ⟨lo, hi, ht, hw⟩⟩, u2⟩
        · obtain ⟨y, hy⟩ := hx
          exact absurd hy (hno y)
        · have q : (a', b', c') = (a, b, c) := by
            rw [hw, ← hq]
            unfold T.wr
            rw [T.wst_congr (f := fun k => hi k - lo k) (g := fun k => (T.tl (T.Tr N bl bh rl rh ps qs ls) 0 (1 + (k : Int))).2 - (T.tl (T.Tr N bl bh rl rh ps qs ls) 0 (1 + (k : Int))).1) fun k hk => by rw [T.tl_of (ht k hk)]]
          injection q with q1 q2
          injection q2 with q2 q3
          subst q1 q2 q3
          exact ⟨h, u2⟩
    · refine ⟨0, 0, 32, fun w' u => ⟨(Worst_ok (I.up u) (J.up u) (K.up u) hv).mono ?_, (r_Worst_ok (I.up u) (J.up u) (K.up u) hv).mono ?_⟩⟩
      · rintro e w'' ⟨⟨a', b', c', h, ⟨rfl, rfl, rfl, _⟩ | ⟨lo, hi, ht, hw⟩⟩, u2⟩
        · exact ⟨h, u2⟩
        · obtain ⟨_, ⟨y, hy, _⟩, _⟩ := ht 0 (by omega)
          exact absurd ⟨y, (T.sat_tru B).1 hy⟩ hx
      · rintro e w'' ⟨⟨a', b', c', h, ⟨rfl, rfl, rfl, _⟩ | ⟨lo, hi, ht, hw⟩⟩, u2⟩
        · exact ⟨h, u2⟩
        · have := ((ht 0 (by omega)).none fun y hy => hx ⟨y, hy⟩).1
          cases this
end

end Go.Proofs.Ytlpkheoljbdajaa

/- The law StarWrongs. -/
namespace Go.Proofs.Ytlpkheoljbdajaa
open Go.RowKit Go.Shelf
attribute [local go_sem] Oper.semAt_some

section
variable {bl bh rl rh : Int} {aP aQ aL : Option Addr} {nP cP nQ cQ nL cL : Nat} {ps qs : List (Int × Int)} {ls : List T.T5}
set_option maxRecDepth 100000 in
set_option maxHeartbeats 8000000 in
set_option linter.unusedSimpArgs false in
theorem starWrongs_any {M  : Int} {w : World} (I : Sps w (.slice aP nP cP) ps) (J : Sps w (.slice aQ nQ cQ) qs) (K : Lks w (.slice aL nL cL) ls) :
    Calls Try.prog 6 #[BoV M bl bh rl rh (.slice aP nP cP) (.slice aQ nQ cQ) (.slice aL nL cL)] w fun e w' => e = .returned (.bool true) ∧ Up w w' := by
  have U := ((Up.refl w).alloc (.cells (BoC M bl bh rl rh (.slice aP nP cP) (.slice aQ nQ cQ) (.slice aL nL cL)) 27))
  have HW := Lib.hid (fun w => l_works_any w)
  obtain ⟨l1, e1, c1⟩ := T.both_Wrong (bl := bl) (bh := bh) (rl := rl) (rh := rh) M I J K
  have C1 := Lib.hid (fun w' (u : Up w w') => (c1 w' u).1)
  have R1 := Lib.hid (fun w' (u : Up w w') => (c1 w' u).2)
  obtain ⟨l2, e2, c2⟩ := T.both_Idle (bl := bl) (bh := bh) (rl := rl) (rh := rh) M I J K
  have C2 := Lib.hid (fun w' (u : Up w w') => (c2 w' u).1)
  have R2 := Lib.hid (fun w' (u : Up w w') => (c2 w' u).2)
  obtain ⟨a3, b3, e3, c3⟩ := T.both_Worst (bl := bl) (bh := bh) (rl := rl) (rh := rh) M I J K
  have C3 := Lib.hid (fun w' (u : Up w w') => (c3 w' u).1)
  have R3 := Lib.hid (fun w' (u : Up w w') => (c3 w' u).2)
  have h1 : (e1 != e1) = false := bne_self_eq_false e1
  have h2 : (e2 != e2) = false := bne_self_eq_false e2
  clear c1 c2 c3 I J K
  go_enter Try.func6, Try.ntmps6
  obtain ⟨q0, e0⟩ : ∃ x, w.heap.size = x := ⟨_, rfl⟩
  have kB := (blk_new w (.cells (BoC M bl bh rl rh (.slice aP nP cP) (.slice aQ nQ cQ) (.slice aL nL cL)) 27) q0 e0.symm)
  go_wp2_with fail
  refine (C1.out _ U).mono ?_
  rintro e x1 ⟨⟨va1, rfl, I1⟩, u2⟩
  replace U := U.trans u2
  replace kB := u2.blk kB
  clear u2 C1
  have Up1 := Up.refl x1
  have J1 := Lib.hid I1
  clear I1
  go_wp2_with fail
  refine (R1.out _ U).mono ?_
  rintro e x3 ⟨⟨vb1, rfl, K1⟩, u4⟩
  replace U := U.trans u4
  replace kB := u4.blk kB
  replace Up1 := Up1.trans u4
  clear u4 R1
  have HA := Lib.hid (show Calls Try.prog 33 #[va1, vb1] x3 fun e w'' => e = .returned (.bool true) ∧ Up x3 w'' by
    have q := B_Alike_any (J1.out.up Up1) K1
    rw [decide_eq_true (rfl : l1 = l1)] at q
    exact q)
  clear J1 K1
  go_wp2_with fail
  clear Up1
  refine (HA.out).mono ?_
  rintro e x5 ⟨rfl, u6⟩
  replace U := U.trans u6
  replace kB := u6.blk kB
  clear u6 HA
  go_wp2_with fail
  refine (C2.out _ U).mono ?_
  rintro e x7 ⟨⟨va2, rfl, I2⟩, u8⟩
  replace U := U.trans u8
  replace kB := u8.blk kB
  clear u8 C2
  have Up2 := Up.refl x7
  have J2 := Lib.hid I2
  clear I2
  go_wp2_with fail
  refine (R2.out _ U).mono ?_
  rintro e x9 ⟨⟨vb2, rfl, K2⟩, u10⟩
  replace U := U.trans u10
  replace kB := u10.blk kB
  replace Up2 := Up2.trans u10
  clear u10 R2
  have HA := Lib.hid (show Calls Try.prog 33 #[va2, vb2] x9 fun e w'' => e = .returned (.bool true) ∧ Up x9 w'' by
    have q := B_Alike_any (J2.out.up Up2) K2
    rw [decide_eq_true (rfl : l2 = l2)] at q
    exact q)
  clear J2 K2
  go_wp2_with fail
  clear Up2
  refine (HA.out).mono ?_
  rintro e x11 ⟨rfl, u12⟩
  replace U := U.trans u12
  replace kB := u12.blk kB
  clear u12 HA
  go_wp2_with fail
  go_wp2_with fail
  refine (C3.out _ U).mono ?_
  rintro e x13 ⟨rfl, u14⟩
  replace U := U.trans u14
  replace kB := u14.blk kB
  clear u14 C3
  go_wp2_with fail
  refine (R3.out _ U).mono ?_
  rintro e x15 ⟨rfl, u16⟩
  replace U := U.trans u16
  replace kB := u16.blk kB
  clear u16 R3
  go_wp2_with fail
  refine (HW.out _).mono ?_
  rintro e x17 ⟨rfl, u18⟩
  replace U := U.trans u18
  replace kB := u18.blk kB
  clear u18 
  go_wp2
  go_ret
  exact ⟨rfl, U⟩
end

end Go.Proofs.Ytlpkheoljbdajaa
