import Derived.Test.YtlpkheoljbdajaaTel
/- Truths of books with other looks. -/
namespace Go.Proofs.Ytlpkheoljbdajaa
open Go.RowKit

section
variable {N : Nat} {bl bh rl rh : Int} {ps qs : List (Int × Int)} {ls ls' : List T.T5} {o o' : Nat → Bool} {y : Int → Int}
theorem T.tr_mk (h : T.Tru N bl bh rl rh ps qs ls o y) (hm : ∀ x ∈ ls', T.HL y x) : T.Tr N bl bh rl rh ps qs ls' y :=
  ⟨h.beg, h.rat, h.per, h.pth, fun _ hk _ => hm _ (T.getD_mem hk)⟩
theorem T.Tru.look (h : T.Tr N bl bh rl rh ps qs ls y) : ∀ x ∈ ls, T.HL y x := fun x hx => by
  obtain ⟨k, hk, rfl⟩ := T.mem_getD (d := ((0, 0, 0, 0, 0) : T.T5)) hx
  exact h.lok k hk rfl
theorem T.Tru.agree (h : T.Tru N bl bh rl rh ps qs ls o y) (e : ∀ k, k < ls.length → o k = o' k) : T.Tru N bl bh rl rh ps qs ls o' y :=
  ⟨h.beg, h.rat, h.per, h.pth, fun k hk ho => h.lok k hk (by rw [e k hk]; exact ho)⟩
end

end Go.Proofs.Ytlpkheoljbdajaa
