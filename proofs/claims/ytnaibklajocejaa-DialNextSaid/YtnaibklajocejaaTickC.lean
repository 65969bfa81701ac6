import Derived.Test.YtnaibklajocejaaTickA
import Derived.Test.YtnaibklajocejaaLawH
import Derived.Test.YtnaibklajocejaaFInv
/- What the announcement's tick is: how near it is, and that it is the same from any tick before it. -/
namespace Go.Proofs.Ytnaibklajocejaa
open Go.RowKit

theorem D.run_le {h m s : Int} {x : Nat → Int} {n : Nat} {t each : Int} (h1 : 1 ≤ h) (h2 : h ≤ 24) (m1 : 1 ≤ m) (m2 : m ≤ 60) (s1 : 2 ≤ s) (s2 : s ≤ 60) (t0 : 0 ≤ t) (j : Nat) (hj : t + j ≤ D.beg h m s x n)
    (hN : ∀ i, i < j → ¬ (D.rS h m s x n (t + (i : Nat))).tmod each = 0) : (j : Int) ≤ s := by
  have K : ∀ i, i < j → D.rS h m s x n (t + (i : Nat)) = D.rS h m s x n t + i := by
    intro i
    induction i with
    | zero => intro _; simp
    | succ i ih =>
      intro hi
      have r := D.rd_is (h := h) (m := m) (s := s) (x := x) (n := n) (t := t + (i : Nat)) h1 m1 s1 (by omega) (by omega)
      have r' := D.rd_is (h := h) (m := m) (s := s) (x := x) (n := n) (t := t + (i : Nat) + 1) h1 m1 s1 (by omega) (by omega)
      have e : t + ((i + 1 : Nat) : Int) = t + (i : Nat) + 1 := by omega
      rcases r.next r' h1 h2 m1 m2 s1 s2 with ⟨_, _, _, q⟩ | ⟨q, _⟩
      · rw [e, q, ih (by omega)]; omega
      · have z := hN (i + 1) hi
        rw [e, q] at z
        exact absurd (Int.zero_tmod _) z
  by_cases j0 : j = 0
  · omega
  · have a := K (j - 1) (by omega)
    have z := hN 0 (by omega)
    have r := D.rd_is (h := h) (m := m) (s := s) (x := x) (n := n) (t := t + ((j - 1 : Nat) : Int)) h1 m1 s1 (by omega) (by omega)
    have r0 := D.rd_is (h := h) (m := m) (s := s) (x := x) (n := n) (t := t) h1 m1 s1 (by omega) (by omega)
    have b := r.sec
    have c := r0.sec
    have nz : ¬ D.rS h m s x n t = 0 := fun e => z (by simp [e])
    omega

theorem NextIs.on {S : Int → Int} {f u each v : Int} {ok : Bool} (h : NextIs S f u each v ok) (y : Nat) (hy : if ok = true then f + y ≤ v else f + y ≤ u) : NextIs S (f + y) u each v ok := by
  rcases h with ⟨x, hx, hN, hz, rfl, rfl⟩ | ⟨hN, rfl, rfl⟩
  · simp only [if_true] at hy
    refine .inl ⟨x - y, by omega, fun i hi => ?_, ?_, by omega, rfl⟩
    · rw [List.mem_range] at hi
      have := hN (y + i) (by rw [List.mem_range]; omega)
      rwa [show f + (y : Int) + (i : Nat) = f + ((y + i : Nat) : Int) by omega]
    · rwa [show f + (y : Int) + ((x - y : Nat) : Int) = f + (x : Nat) by omega]
  · simp only [Bool.false_eq_true, if_false] at hy
    refine .inr ⟨fun i hi => ?_, rfl, rfl⟩
    rw [List.mem_range] at hi
    have := hN (y + i) (by rw [List.mem_range]; omega)
    rwa [show f + (y : Int) + (i : Nat) = f + ((y + i : Nat) : Int) by omega]

end Go.Proofs.Ytnaibklajocejaa
