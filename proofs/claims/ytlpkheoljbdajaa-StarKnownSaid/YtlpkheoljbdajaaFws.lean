import Derived.Test.YtlpkheoljbdajaaTrl
import Derived.Test.YtlpkheoljbdajaaSam
import Derived.Test.YtlpkheoljbdajaaWks
import Derived.Test.YtlpkheoljbdajaaWth
import Derived.Test.YtlpkheoljbdajaaFwL
/- A book without some looks: its truths, and the fewest looks without which it has one. -/
namespace Go.Proofs.Ytlpkheoljbdajaa
open Go.RowKit

section
variable {N : Nat} {bl bh rl rh : Int} {ps qs : List (Int × Int)} {ls ls' : List T.T5} {o o' : Nat → Bool} {y : Int → Int} {zs : List Int}
theorem T.mem_kpt {x : T.T5} {j : Nat} : x ∈ T.kpt zs ls j ↔ ∃ k, k < j ∧ (k : Int) ∉ zs ∧ ls.getD k (0, 0, 0, 0, 0) = x := by
  unfold T.kpt
  simp only [List.mem_map, List.mem_filter, List.mem_range, decide_eq_true_eq]
  constructor
  · rintro ⟨k, ⟨a, b⟩, c⟩; exact ⟨k, a, b, c⟩
  · rintro ⟨k, a, b, c⟩; exact ⟨k, ⟨a, b⟩, c⟩
theorem T.kpt_tru : T.Tr N bl bh rl rh ps qs (T.kpt zs ls ls.length) y ↔ T.Tru N bl bh rl rh ps qs ls (fun k => decide ((k : Int) ∈ zs)) y := by
  constructor
  · intro h
    exact ⟨h.beg, h.rat, h.per, h.pth, fun k hk ho => h.look _ (T.mem_kpt.2 ⟨k, hk, of_decide_eq_false ho, rfl⟩)⟩
  · intro h
    refine T.tr_mk h fun x hx => ?_
    obtain ⟨k, hk, hz, rfl⟩ := T.mem_kpt.1 hx
    exact h.lok k hk (decide_eq_false hz)
theorem T.valid_looks (hv : T.valid N bl bh rl rh ps qs ls = true) (hl : ls'.length ≤ 10) (h : ∀ x ∈ ls', T.lookOk ps.length qs.length N x = true) : T.valid N bl bh rl rh ps qs ls' = true := by
  unfold T.valid at hv ⊢
  simp only [Bool.and_eq_true, decide_eq_true_eq, List.all_eq_true] at hv ⊢
  exact ⟨hv.1, hv.2.1, hl, h⟩
theorem T.valid_all (hv : T.valid N bl bh rl rh ps qs ls = true) : ∀ x ∈ ls, T.lookOk ps.length qs.length N x = true := by
  unfold T.valid at hv
  simp only [Bool.and_eq_true, decide_eq_true_eq, List.all_eq_true] at hv
  exact hv.2.2.2
theorem T.kpt_valid (hv : T.valid N bl bh rl rh ps qs ls = true) (zs : List Int) : T.valid N bl bh rl rh ps qs (T.kpt zs ls ls.length) = true :=
  T.valid_looks hv (Nat.le_trans T.kpt_len (T.valid_bok hv).l10) fun x hx => by
    obtain ⟨k, hk, _, rfl⟩ := T.mem_kpt.1 hx
    exact T.valid_all hv _ (T.getD_mem hk)
/-- without any look there is a truth: all at its least -/
def T.low (bl rl : Int) (ps qs : List (Int × Int)) : Int → Int := fun i => if i = 0 then 0 else if i < 9 then bl + rl * (i - 1) else if i < 13 then -(ps.getD (i - 9).toNat (0, 0)).1 else (qs.getD (i - 13).toNat (0, 0)).1
theorem T.low_tru (hv : T.valid N bl bh rl rh ps qs ls = true) (ho : ∀ k, k < ls.length → o k = true) : T.Tru N bl bh rl rh ps qs ls o (T.low bl rl ps qs) := by
  have B := T.valid_bok hv
  unfold T.valid T.nightsOk T.othersOk at hv
  simp only [Bool.and_eq_true, decide_eq_true_eq, List.all_eq_true, inB_iff, S.spanOk_iff] at hv
  obtain ⟨⟨_, hb, hr⟩, ⟨⟨_, hp⟩, _, hq⟩, _⟩ := hv
  have n8 := B.n8
  have p4 := B.p4
  have q4 := B.q4
  have e0 : T.low bl rl ps qs 0 = 0 := by unfold T.low; rw [if_pos rfl]
  have en : ∀ k : Nat, k < N → T.low bl rl ps qs (1 + (k : Int)) = bl + rl * k := fun k hk => by
    unfold T.low
    rw [if_neg (by omega), if_pos (by omega), show (1 + (k : Int) - 1) = k by omega]
  refine ⟨?_, fun k hk => ?_, fun k hk => ?_, fun k hk => ?_, fun k hk h => absurd h (by rw [ho k hk]; decide)⟩
  · have := en 0 (by omega)
    rw [show (1 : Int) + ((0 : Nat) : Int) = 1 from rfl] at this
    rw [e0, this]
    simp
    omega
  · have a := en k (by omega)
    have b := en (k + 1) (by omega)
    rw [show (1 : Int) + ((k + 1 : Nat) : Int) = 1 + ((k : Int) + 1) by omega] at b
    rw [a, b, show ((k + 1 : Nat) : Int) = (k : Int) + 1 by omega, Int.mul_add]
    omega
  · have hs := hp _ (T.getD_mem (d := (0, 0)) hk)
    unfold T.perOk at hs
    have hs := S.spanOk_iff.1 hs
    have a : T.low bl rl ps qs (9 + (k : Int)) = -(ps.getD k (0, 0)).1 := by
      unfold T.low
      rw [if_neg (by omega), if_neg (by omega), if_pos (by omega), show (9 + (k : Int) - 9).toNat = k by omega]
    rw [e0, a]
    omega
  · have hs := hq _ (T.getD_mem (d := (0, 0)) hk)
    unfold T.pathOk at hs
    have hs := S.spanOk_iff.1 hs
    have a : T.low bl rl ps qs (13 + (k : Int)) = (qs.getD k (0, 0)).1 := by
      unfold T.low
      rw [if_neg (by omega), if_neg (by omega), if_neg (by omega), show (13 + (k : Int) - 13).toNat = k by omega]
    rw [e0, a]
    omega
theorem T.bits_high {z n : Nat} (hz : z < 2 ^ n) : ∀ c, n ≤ c → (fun k => z.testBit k) c = false := fun c hc =>
  Nat.testBit_lt_two_pow (Nat.lt_of_lt_of_le hz (Nat.pow_le_pow_right (by decide) hc))
theorem T.lst_hi {s : Nat → Bool} {n : Nat} (h : ∀ c, n ≤ c → s c = false) : ∀ k, T.lst s (n + k) = T.lst s n
  | 0 => rfl
  | k + 1 => by
    have ih := T.lst_hi h k
    unfold T.lst at ih ⊢
    rw [← Nat.add_assoc, List.range_succ, List.filter_append, List.map_append, ih, List.filter_cons, h _ (by omega)]
    simp
/-- whether there is a truth without the looks of a set -/
theorem T.can_kpt (hv : T.valid N bl bh rl rh ps qs ls = true) (t : Nat → Bool) : T.canP N bl bh rl rh ps qs ls t = true ↔ ∃ y, T.Tr N bl bh rl rh ps qs (T.kpt (T.lst t ls.length) ls ls.length) y := by
  rw [T.canP_tru hv]
  constructor
  · rintro ⟨y, hy⟩
    exact ⟨y, T.kpt_tru.2 (hy.agree fun k hk => by
      cases h : t k with
      | true => exact (decide_eq_true ((T.mem_lst t ls.length).2 ⟨hk, h⟩)).symm
      | false => exact (decide_eq_false fun q => by have := ((T.mem_lst t ls.length).1 q).2; rw [h] at this; cases this).symm)⟩
  · rintro ⟨y, hy⟩
    exact ⟨y, (T.kpt_tru.1 hy).agree fun k hk => by
      cases h : t k with
      | true => exact decide_eq_true ((T.mem_lst t ls.length).2 ⟨hk, h⟩)
      | false => exact decide_eq_false fun q => by have := ((T.mem_lst t ls.length).1 q).2; rw [h] at this; cases this⟩
theorem T.left (hv : T.valid N bl bh rl rh ps qs ls = true) {W : List Int} (hW : T.lst (T.fewS (T.canP N bl bh rl rh ps qs ls) ls.length) 10 = W) {t : Nat → Bool} (ht : ∀ c, ls.length ≤ c → t c = false) :
    T.clm ls.length 0 W = true ∧ (W.length = 0 ↔ ∃ y, T.Tr N bl bh rl rh ps qs ls y) ∧ (∃ y, T.Tr N bl bh rl rh ps qs (T.kpt W ls ls.length) y) ∧
      ((∃ y, T.Tr N bl bh rl rh ps qs (T.kpt (T.lst t ls.length) ls ls.length) y) → W.length < (T.lst t ls.length).length ∨ (T.lst t ls.length).length = W.length ∧ T.ahd (T.lst t ls.length) W = false) := by
  have l10 := (T.valid_bok hv).l10
  obtain ⟨q1, q2⟩ := T.few_is (P := T.canP N bl bh rl rh ps qs ls) (many := ls.length)
  cases hf : T.few (T.canP N bl bh rl rh ps qs ls) ls.length 0 with
  | none =>
    have h := q1 hf (fun k => decide (k < ls.length)) (fun c hc => decide_eq_false (by omega))
    have h' := (T.canP_tru (s := fun k => decide (k < ls.length)) hv).2 ⟨_, T.low_tru hv fun k hk => decide_eq_true hk⟩
    rw [h] at h'
    cases h'
  | some s =>
    obtain ⟨h1, h2, h3⟩ := q2 s hf
    have e : T.fewS (T.canP N bl bh rl rh ps qs ls) ls.length = s := by unfold T.fewS; rw [hf]; rfl
    rw [e] at hW
    have e2 := T.lst_hi h1 (10 - ls.length)
    rw [show ls.length + (10 - ls.length) = 10 by omega, hW] at e2
    subst e2
    refine ⟨T.clm_lst s _ _ (Nat.le_refl _), ?_, (T.can_kpt hv s).1 h2, ?_⟩
    · rw [T.lst_cnt]
      constructor
      · intro h0
        have hz := T.cnt_zero (t := s) (many := ls.length) (fr := 0) rfl h0
        obtain ⟨y, hy⟩ := (T.canP_tru hv).1 h2
        exact ⟨y, hy.agree fun k hk => hz k (Nat.zero_le _) hk⟩
      · intro h
        have := (h3 (fun _ => false) (fun _ _ => rfl) ((T.canP_tru hv).2 h)).1
        have e : T.cnt (fun _ => false) 0 ls.length = 0 := by
          unfold T.cnt
          rw [List.length_eq_zero_iff, List.filter_eq_nil_iff]
          intro a _
          simp
        omega
    · intro h
      rw [T.lst_cnt, T.lst_cnt]
      obtain ⟨a, b⟩ := h3 t ht ((T.can_kpt hv t).2 h)
      rcases Nat.lt_or_ge (T.cnt s 0 ls.length) (T.cnt t 0 ls.length) with c | c
      · exact .inl c
      · have e : T.cnt t 0 ls.length = T.cnt s 0 ls.length := by omega
        refine .inr ⟨e, ?_⟩
        rcases b e with rfl | L
        · exact T.ahd_self _
        · exact T.lex_ahd L h1 e
end

end Go.Proofs.Ytlpkheoljbdajaa
