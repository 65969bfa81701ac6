import Derived.Test.YtlpkheoljbdajaaFws
import Derived.Test.YtlpkheoljbdajaaSou
/- What is told of a book as functions; when a look is idle; what Worst tells. -/
namespace Go.Proofs.Ytlpkheoljbdajaa
open Go.RowKit

/-- what is told, as a function (nothing: 0 to 0) -/
noncomputable def T.tl (P : (Int → Int) → Prop) (m i : Int) : Int × Int :=
  @dite _ (∃ p : Int × Int, T.Tells P m i p.1 p.2 0) (Classical.propDecidable _) (fun h => Classical.choose h) (fun _ => (0, 0))
theorem T.tl_of {P : (Int → Int) → Prop} {m i l h : Int} (t : T.Tells P m i l h 0) : T.tl P m i = (l, h) := by
  have q : ∃ p : Int × Int, T.Tells P m i p.1 p.2 0 := ⟨(l, h), t⟩
  unfold T.tl
  rw [dif_pos q]
  have c := Classical.choose_spec q
  have u := c.uniq t
  exact Prod.ext u.1 u.2.1
theorem T.tl_is {P : (Int → Int) → Prop} {m i : Int} (q : ∃ l h, T.Tells P m i l h 0) : T.Tells P m i (T.tl P m i).1 (T.tl P m i).2 0 := by
  obtain ⟨l, h, t⟩ := q
  rw [T.tl_of t]
  exact t
def T.allB (f : Nat → Bool) (j : Nat) : Bool := (List.range j).all f
theorem T.allB_step {f : Nat → Bool} {j : Nat} : T.allB f (j + 1) = (T.allB f j && f j) := by
  unfold T.allB
  rw [List.range_succ, List.all_append]
  simp
theorem T.allB_iff {f : Nat → Bool} {j : Nat} : T.allB f j = true ↔ ∀ k, k < j → f k = true := by
  unfold T.allB
  simp only [List.all_eq_true, List.mem_range]
section
variable {N : Nat} {bl bh rl rh : Int} {ps qs : List (Int × Int)} {ls : List T.T5} {o : Nat → Bool}
theorem T.tl_tells (hv : T.valid N bl bh rl rh ps qs ls = true) (hx : ∃ y, T.Tru N bl bh rl rh ps qs ls o y) {m i : Int} (hm : T.Alive N ps.length qs.length m) (hi : T.Alive N ps.length qs.length i) :
    T.Tells (T.Tru N bl bh rl rh ps qs ls o) m i (T.tl (T.Tru N bl bh rl rh ps qs ls o) m i).1 (T.tl (T.Tru N bl bh rl rh ps qs ls o) m i).2 0 := by
  obtain ⟨l, h, e, t, _⟩ := T.Tells.ex (o := o) hv hm hi
  obtain ⟨y, hy⟩ := hx
  obtain rfl := t.has hy
  exact T.tl_is ⟨l, h, t⟩
/-- which night, how wide, and the error -/
def T.wr (wd : Nat → Int) (n : Nat) : Int × Int × Int := if (T.wst wd n).2 = 0 then (0, 0, 4) else ((T.wst wd n).1, (T.wst wd n).2, 0)
theorem T.wst_congr {f g : Nat → Int} : ∀ {n : Nat}, (∀ k, k < n → f k = g k) → T.wst f n = T.wst g n
  | 0, _ => rfl
  | n + 1, h => by
    unfold T.wst
    rw [T.wst_congr (n := n) fun k hk => h k (by omega), h n (by omega)]
theorem T.worst_wr (hv : T.valid N bl bh rl rh ps qs ls = true) (hx : ∃ y, T.Tru N bl bh rl rh ps qs ls o y) {a b c : Int} (h : T.WorstIs (T.web N bl bh rl rh ps qs ls o) N a b c) :
    (a, b, c) = T.wr (fun k => (T.tl (T.Tru N bl bh rl rh ps qs ls o) 0 (1 + (k : Int))).2 - (T.tl (T.Tru N bl bh rl rh ps qs ls o) 0 (1 + (k : Int))).1) N := by
  have B := T.valid_bok hv
  rcases h with ⟨_, _, _, hno⟩ | ⟨lo, hi, hT, hc⟩
  · obtain ⟨y, hy⟩ := hx
    exact absurd ((T.sat_tru B).2 hy) (hno y)
  · have e : T.wst (fun k => hi k - lo k) N = T.wst (fun k => (T.tl (T.Tru N bl bh rl rh ps qs ls o) 0 (1 + (k : Int))).2 - (T.tl (T.Tru N bl bh rl rh ps qs ls o) 0 (1 + (k : Int))).1) N :=
      T.wst_congr fun k hk => by
        have t : T.Tells (T.Tru N bl bh rl rh ps qs ls o) 0 (1 + (k : Int)) (lo k) (hi k) 0 := (T.tells_asked B).1 (.inl ⟨rfl, hT k hk⟩)
        rw [T.tl_of t]
    rw [e] at hc
    unfold T.wr
    rcases hc with ⟨h1, rfl, rfl, rfl⟩ | ⟨h1, rfl, rfl, rfl⟩
    · rw [if_pos h1]
    · rw [if_neg h1]
/-- without looks: an offset goes on by the ends of the rate -/
theorem T.none_tells (hv : T.valid N bl bh rl rh ps qs ls = true) {k : Nat} (hk : k < N) : T.Tells (T.Tr N bl bh rl rh ps qs []) 0 (1 + (k : Int)) (bl + k * rl) (bh + k * rh) 0 := by
  have hv0 : T.valid N bl bh rl rh ps qs [] = true := T.valid_looks hv (by simp) (fun x hx => by cases hx)
  have in_ : ∀ y, T.Tr N bl bh rl rh ps qs [] y → ∀ k : Nat, k < N → bl + k * rl ≤ y (1 + (k : Int)) - y 0 ∧ y (1 + (k : Int)) - y 0 ≤ bh + k * rh := fun y hy k => by
    induction k with
    | zero =>
      intro _
      have := hy.beg
      rw [show (1 : Int) + ((0 : Nat) : Int) = 1 from rfl]
      simp
      omega
    | succ k ih =>
      intro hk
      have a := ih (by omega)
      have b := hy.rat k hk
      rw [show ((k + 1 : Nat) : Int) = (k : Int) + 1 by omega, Int.add_mul, Int.add_mul]
      omega
  have lo := T.low_tru (ls := []) (o := T.o0) hv0 (fun k hk => by cases hk)
  have e0 : T.low bl rl ps qs 0 = 0 := by unfold T.low; rw [if_pos rfl]
  have n8 := (T.valid_bok hv).n8
  have p4 := (T.valid_bok hv).p4
  have el : T.low bl rl ps qs (1 + (k : Int)) = bl + rl * k := by
    unfold T.low
    rw [if_neg (by omega), if_pos (by omega), show (1 + (k : Int) - 1) = k by omega]
  have hl := lo
  -- the greatest: all nights at the upper end
  have up : T.Tr N bl bh rl rh ps qs [] (fun i => if 1 ≤ i ∧ i < 9 then bh + rh * (i - 1) else T.low bl rl ps qs i) := by
    obtain ⟨⟨_, hb, hr⟩, _⟩ := T.valid_parts hv
    refine ⟨?_, fun j hj => ?_, fun j hj => ?_, fun j hj => ?_, fun j hj => by cases hj⟩
    · rw [if_pos (by omega), if_neg (by omega), e0]
      simp
      omega
    · rw [if_pos (by omega), if_pos (by omega), show (1 + ((j : Int) + 1) - 1) = (j : Int) + 1 by omega, show (1 + (j : Int) - 1) = j by omega, Int.mul_add]
      omega
    · have := hl.per j hj
      rw [if_neg (by omega), if_neg (by omega)]
      exact this
    · have := hl.pth j hj
      rw [if_neg (by omega), if_neg (by omega)]
      exact this
  refine .inl ⟨rfl, fun y hy => in_ y hy k hk, ⟨_, lo, ?_⟩, _, up, ?_⟩
  · rw [e0, el, Int.mul_comm]; omega
  · rw [if_pos (by omega), if_neg (by omega), e0, show (1 + (k : Int) - 1) = k by omega, Int.mul_comm]; omega
theorem T.kpt_none {zs : List Int} {j : Nat} (h : ∀ k, k < j → (k : Int) ∈ zs) : T.kpt zs ls j = [] := by
  refine List.eq_nil_iff_forall_not_mem.2 fun x hx => ?_
  obtain ⟨k, hk, hz, _⟩ := T.mem_kpt.1 hx
  exact hz (h k hk)
/-- a look is idle just if all spans are told as before without it -/
theorem T.idle_iff (hv : T.valid N bl bh rl rh ps qs ls = true) (hx : ∃ y, T.Tr N bl bh rl rh ps qs ls y) {k : Nat} :
    T.Same (T.web N bl bh rl rh ps qs ls T.o0) (T.web N bl bh rl rh ps qs ls (T.st T.o0 k true)) ↔
      (∀ j, j < N → T.tl (T.Tr N bl bh rl rh ps qs ls) 0 (1 + (j : Int)) = T.tl (T.Tr N bl bh rl rh ps qs (T.kpt [(k : Int)] ls ls.length)) 0 (1 + (j : Int))) ∧
      (∀ j, j < ps.length → T.tl (T.Tr N bl bh rl rh ps qs ls) (9 + (j : Int)) 0 = T.tl (T.Tr N bl bh rl rh ps qs (T.kpt [(k : Int)] ls ls.length)) (9 + (j : Int)) 0) ∧
      ∀ j, j < qs.length → T.tl (T.Tr N bl bh rl rh ps qs ls) 0 (13 + (j : Int)) = T.tl (T.Tr N bl bh rl rh ps qs (T.kpt [(k : Int)] ls ls.length)) 0 (13 + (j : Int)) := by
  have eP : T.Tr N bl bh rl rh ps qs (T.kpt [(k : Int)] ls ls.length) = T.Tru N bl bh rl rh ps qs ls (T.st T.o0 k true) := funext fun y => propext (T.kpt_tru.trans ⟨fun h => h.agree fun j _ => by
      unfold T.st
      by_cases e : j = k
      · rw [if_pos e, e]; simp
      · rw [if_neg e]; simp; omega, fun h => h.agree fun j _ => by
      unfold T.st
      by_cases e : j = k
      · rw [if_pos e, e]; simp
      · rw [if_neg e]; simp; omega⟩)
  rw [eP]
  have hm : ∀ y, T.Tr N bl bh rl rh ps qs ls y → T.Tru N bl bh rl rh ps qs ls (T.st T.o0 k true) y := fun y hy => hy.less (fun _ _ => rfl)
  have hx' : ∃ y, T.Tru N bl bh rl rh ps qs ls (T.st T.o0 k true) y := by obtain ⟨y, hy⟩ := hx; exact ⟨y, hm y hy⟩
  rw [T.same_tells hv hx hm]
  constructor
  · intro h
    refine ⟨fun j hj => ?_, fun j hj => ?_, fun j hj => ?_⟩
    · obtain ⟨l, u, _, t1, t2⟩ := h _ (T.al_night (n := (j : Int)) ⟨by omega, by omega⟩)
      rw [T.tl_of t1, T.tl_of t2]
    · have al := T.al_per (N := N) (nq := qs.length) (np := ps.length) (n := (j : Int)) ⟨by omega, by omega⟩
      obtain ⟨l, u, _, t1, t2⟩ := h _ al
      have s1 := T.tl_tells hv hx al T.al_0
      have s2 := T.tl_tells hv hx' al T.al_0
      have f1 := t1.flip s1
      have f2 := t2.flip s2
      exact Prod.ext (f1.2.1.trans f2.2.1.symm) (f1.2.2.trans f2.2.2.symm)
    · obtain ⟨l, u, _, t1, t2⟩ := h _ (T.al_pth (n := (j : Int)) ⟨by omega, by omega⟩)
      rw [T.tl_of t1, T.tl_of t2]
  · rintro ⟨h1, h2, h3⟩ i hi
    obtain ⟨l, u, e, t, b, _⟩ := T.Tells.ex (o := T.o0) hv T.al_0 hi
    obtain rfl : e = 0 := by obtain ⟨y, hy⟩ := hx; exact t.has hy
    refine ⟨l, u, b, t, ?_⟩
    have s2 := T.tl_tells hv hx' T.al_0 hi
    have key : T.tl (T.Tru N bl bh rl rh ps qs ls (T.st T.o0 k true)) 0 i = (l, u) := by
      rcases hi with rfl | ⟨a1, a2⟩ | ⟨a1, a2⟩ | ⟨a1, a2⟩
      · have z1 := t.self
        have z2 := s2.self
        exact Prod.ext (z2.1.trans z1.1.symm) (z2.2.trans z1.2.symm)
      · obtain ⟨j, rfl⟩ : ∃ j : Nat, i = 1 + j := ⟨(i - 1).toNat, by omega⟩
        rw [← h1 j (by omega), T.tl_of t]
      · obtain ⟨j, rfl⟩ : ∃ j : Nat, i = 9 + j := ⟨(i - 9).toNat, by omega⟩
        have al := T.al_per (N := N) (nq := qs.length) (np := ps.length) (n := (j : Int)) ⟨by omega, by omega⟩
        have r1 := T.tl_tells hv hx al T.al_0
        have r2 := T.tl_tells hv hx' al T.al_0
        have e := h2 j (by omega)
        rw [e] at r1
        have f1 := r1.flip t
        have f2 := r2.flip s2
        exact Prod.ext (f2.2.1.trans f1.2.1.symm) (f2.2.2.trans f1.2.2.symm)
      · obtain ⟨j, rfl⟩ : ∃ j : Nat, i = 13 + j := ⟨(i - 13).toNat, by omega⟩
        rw [← h3 j (by omega), T.tl_of t]
    rw [key] at s2
    exact s2
end

end Go.Proofs.Ytlpkheoljbdajaa
