import Derived.Test.YtnaibklajocejaaLawC
/- The contract of Alike. -/
namespace Go.Proofs.Ytnaibklajocejaa
open Go.RowKit

set_option maxRecDepth 100000 in
set_option maxHeartbeats 1000000 in
theorem l_Alike_any {xs ys : List Int} {va vb : Value} {w : World} (SA : D.Sl w va xs) (SB : D.Sl w vb ys) :
    Calls Try.prog 36 #[va, vb] w fun e w' => e = .returned (.bool (decide (xs = ys))) ∧ Up w w' := by
  have K := l_First_any SA SB
  obtain ⟨a, c, rfl, lx, _⟩ := SA
  obtain ⟨a', c', rfl, ly, _⟩ := SB
  obtain ⟨nx, hnx⟩ : ∃ nx, xs.length = nx := ⟨_, rfl⟩
  obtain ⟨ny, hny⟩ : ∃ ny, ys.length = ny := ⟨_, rfl⟩
  rw [hnx, hny] at K
  rw [hnx, hny]
  by_cases hl : nx = ny
  · have e : (decide (xs = ys)) = (decide (D.first xs ys = nx)) := by
      rw [decide_eq_decide]
      exact ⟨fun h => by rw [← hnx, h]; exact D.first_self _, fun h => D.first_all (by omega) (by omega)⟩
    rw [e]
    obtain ⟨f, hf0⟩ : ∃ f, D.first xs ys = f := ⟨_, rfl⟩
    rw [hf0] at K ⊢
    have HK := Lib.hid K
    subst hl
    have lx' : nx ≤ 1000000 := by omega
    clear K e hf0 hnx hny lx ly
    by_cases hf : f = nx
    · have hf' : ((f : Int) == (nx : Int)) = true := by simp [hf]
      rw [decide_eq_true hf]
      go_enter Try.func36, Try.ntmps36
      go_wp2_with fail
      refine HK.out.mono ?_
      rintro e w1 ⟨rfl, u1⟩
      go_wp2
      go_ret
      exact ⟨rfl, u1⟩
    · have hf' : ((f : Int) == (nx : Int)) = false := by simp; omega
      rw [decide_eq_false hf]
      go_enter Try.func36, Try.ntmps36
      go_wp2_with fail
      refine HK.out.mono ?_
      rintro e w1 ⟨rfl, u1⟩
      go_wp2
      go_ret
      exact ⟨rfl, u1⟩
  · have hf' : ((nx : Int) == (ny : Int)) = false := by simp; omega
    rw [decide_eq_false (fun h => hl (by rw [← hnx, ← hny, h]))]
    clear K hnx hny
    go_enter Try.func36, Try.ntmps36
    go_wp2
    go_ret
    exact ⟨rfl, Up.refl _⟩

end Go.Proofs.Ytnaibklajocejaa
