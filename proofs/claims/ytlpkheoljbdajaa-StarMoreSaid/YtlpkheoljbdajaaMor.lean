import Derived.Test.YtlpkheoljbdajaaFws
import Derived.Test.YtlpkheoljbdajaaHst
/- Books whose looks are turned round or told twice, and with one look more. -/
namespace Go.Proofs.Ytlpkheoljbdajaa
open Go.RowKit

section
variable {N : Nat} {bl bh rl rh : Int} {ps qs : List (Int × Int)} {ls ls' : List T.T5}
theorem T.turn_valid (hv : T.valid N bl bh rl rh ps qs ls = true) (hm : ∀ x, x ∈ ls' ↔ x ∈ ls) (hl : ls'.length ≤ 10) : T.valid N bl bh rl rh ps qs ls' = true :=
  T.valid_looks hv hl fun x hx => T.valid_all hv x ((hm x).1 hx)
theorem T.turn_tr (hm : ∀ x, x ∈ ls' ↔ x ∈ ls) (y : Int → Int) : T.Tr N bl bh rl rh ps qs ls y ↔ T.Tr N bl bh rl rh ps qs ls' y :=
  ⟨fun h => T.tr_mk h fun x hx => h.look x ((hm x).1 hx), fun h => T.tr_mk h fun x hx => h.look x ((hm x).2 hx)⟩
/-- looks turned round, one of them told twice or not -/
theorem T.turned_mem {x d : T.T5} {r : Nat} (hr : r < ls.length ∨ ls.length = 0) : x ∈ ls.reverse ++ (if ls.length = 0 then [] else [ls.getD r d]) ↔ x ∈ ls := by
  rw [List.mem_append, List.mem_reverse]
  constructor
  · rintro (h | h)
    · exact h
    · split at h
      · cases h
      · rw [List.mem_singleton] at h
        subst h
        exact T.getD_mem (by omega)
  · exact .inl
theorem T.rev_step {α : Type} {xs : List α} {d : α} {j : Nat} (hj : j < xs.length) : (xs.drop j).reverse = (xs.drop (j + 1)).reverse ++ [xs.getD j d] := by
  rw [List.drop_eq_getElem_cons hj, List.reverse_cons, List.getD_eq_getElem?_getD, List.getElem?_eq_getElem hj]
  rfl
theorem Offset_more {n lo hi eE : Int} (hn : 0 ≤ n ∧ n < N) (t : T.Tells (T.Tr N bl bh rl rh ps qs ls) 0 (1 + n) lo hi eE) (m : T.T5) :
    ∃ l u e, ((e = 0 ∧ eE = 0 ∧ lo ≤ l ∧ u ≤ hi) ∨ (e = 30 ∧ l = 0 ∧ u = 0) ∨ (e = 32 ∧ l = 0 ∧ u = 0)) ∧
      ∀ (w : World) (aP aQ aL : Option Addr) (nP cP nQ cQ nL cL : Nat), Sps w (.slice aP nP cP) ps → Sps w (.slice aQ nQ cQ) qs → Lks w (.slice aL nL cL) (ls ++ [m]) →
        Calls Try.prog 24 #[BoV (N : Int) bl bh rl rh (.slice aP nP cP) (.slice aQ nQ cQ) (.slice aL nL cL), .int .i64 n] w fun e' w' => e' = .returned (.tuple #[SpV l u, .int .i64 e]) ∧ Up w w' := by
  cases hv : T.valid N bl bh rl rh ps qs (ls ++ [m]) with
  | false =>
    refine ⟨0, 0, 30, .inr (.inl ⟨rfl, rfl, rfl⟩), fun w aP aQ aL nP cP nQ cQ nL cL I J K => ?_⟩
    exact Offset_bad I J K (by unfold T.qErr; rw [hv]; rfl) (by decide)
  | true =>
    obtain ⟨l, u, e, q, _⟩ := T.Tells.ex (o := T.o0) (m := 0) (i := 1 + n) hv T.al_0 (T.al_night hn)
    refine ⟨l, u, e, ?_, fun w aP aQ aL nP cP nQ cQ nL cL I J K => Offset_tells hv hn q I J K⟩
    rcases q.wider (fun y hy => T.tr_mk hy fun x hx => T.Tru.look hy x (List.mem_append_left _ hx)) t with ⟨a, b, c⟩ | ⟨a, b, c, d⟩
    · exact .inr (.inr ⟨a, b, c⟩)
    · exact .inl ⟨a, b, c, d⟩
end

end Go.Proofs.Ytlpkheoljbdajaa
