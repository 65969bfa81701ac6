import Derived.Test.YtckjggkikpgidaaBas
/- Rules that are wider, or turned round: what can be reached, and the fewest ticks. -/
namespace Go.Proofs.Ytckjggkikpgidaa
open Go.RowKit

theorem S.most_le {e e' j j' : Int} (he : e ≤ e') (hj : j ≤ j') (n : Nat) : S.most e j n ≤ S.most e' j' n :=
  S.sm_le n fun _ _ => S.can_e he hj _
theorem S.part_le {f f' s s' : Int} (hf : f ≤ f') (hs : s ≤ s') (p : Int) : S.part f s p ≤ S.part f' s' p := by
  unfold S.part
  split
  · exact hs
  · split
    · exact hf
    · exact Int.le_refl _
theorem S.First.le {P Q : Nat → Bool} {n r r' : Nat} (h : S.First P n r) (h' : S.First Q n r') (hPQ : ∀ x, P x = true → Q x = true) : r' ≤ r := by
  obtain ⟨a, b, c⟩ := h
  obtain ⟨a', b', c'⟩ := h'
  by_cases e : r' ≤ r
  · exact e
  · have h1 := hPQ r (c (by omega))
    rw [b' r (by omega)] at h1
    cases h1
theorem S.Few.wider {f f' s s' j j' off : Int} {r r' : Nat} (hf : f ≤ f') (hs : s ≤ s') (hj : j ≤ j') (h : S.Few f s j off r) (h' : S.Few f' s' j' off r') : r' ≤ r :=
  S.First.le h h' fun x hx => by
    have a := of_decide_eq_true hx
    have b := S.most_le (S.part_le hf hs (S.against off)) hj x
    exact decide_eq_true (by omega)
theorem S.Few.flip {f s j off : Int} {r : Nat} (h : S.Few f s j off r) : S.Few s f j (-off) r := by
  unfold S.Few at h ⊢
  have e1 : max (-off) (- -off) = max off (-off) := by omega
  have e2 : S.part s f (S.against (-off)) = S.part f s (S.against off) := by
    by_cases h1 : 0 < off
    · have a1 : S.against off = 0 := if_pos h1
      have a2 : S.against (-off) = 2 := by unfold S.against; rw [if_neg (by omega), if_pos (by omega)]
      rw [a1, a2]; rfl
    · by_cases h2 : off < 0
      · have a1 : S.against off = 2 := by unfold S.against; rw [if_neg h1, if_pos h2]
        have a2 : S.against (-off) = 0 := if_pos (by omega)
        rw [a1, a2]; rfl
      · have a1 : S.against off = 1 := by unfold S.against; rw [if_neg h1, if_neg h2]
        have a2 : S.against (-off) = 1 := by unfold S.against; rw [if_neg (by omega), if_neg (by omega)]
        rw [a1, a2]; rfl
  rw [e1, e2]
  exact h
theorem S.Few.max {f s j off : Int} {r : Nat} (h : S.Few f s j off r) : r ≤ 201 := h.1

theorem cell_int4 {w : World} {b : Nat} {cs : Array Value} (h : mblk w b = some (.cells cs 65 (0, 0))) (j : Nat) : w.cell? ⟨b, j, none⟩ = cs[j]? := cellB h j
attribute [go_sem] cell_int4
theorem min_run {a b c : Int} (h : min a b = c) (ts : Array TypeId) (t' : TypeId) (w : World) : (Builtin.min_ ts t' #[.int .i64 a, .int .i64 b]).run Try.prog w = .ok (.int .i64 c) w := by
  have e : (if b < a then b else a) = c := by split <;> omega
  rw [run_min_int2, e]
theorem max_run {a b c : Int} (h : max a b = c) (ts : Array TypeId) (t' : TypeId) (w : World) : (Builtin.max_ ts t' #[.int .i64 a, .int .i64 b]).run Try.prog w = .ok (.int .i64 c) w := by
  have e : (if b > a then b else a) = c := by split <;> omega
  rw [run_max_int2, e]

end Go.Proofs.Ytckjggkikpgidaa
