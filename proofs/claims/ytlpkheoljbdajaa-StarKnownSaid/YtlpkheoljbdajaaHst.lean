import Derived.Test.YtlpkheoljbdajaaAp2
/- Small facts that the laws share: rows of one's own beside other memory, the least and the greatest of two numbers. -/
namespace Go.Proofs.Ytlpkheoljbdajaa
open Go.RowKit

theorem row_other {W W' : World} {base size n : Nat} {e : TypeId} {v : Value} {xs : List Value} {row : Option Nat} (ho : W.ownsRow base e size v n xs) (hg : W.grownBy W' row) (hne : row ≠ v.ownBlock) : W'.ownsRow base e size v n xs := by
  refine ⟨ho.1, ?_⟩
  rcases ho.2 with h | ⟨g, cap, cur, hv, hb, hc, rest⟩
  · exact .inl h
  · refine .inr ⟨g, cap, cur, hv, hb, ?_, rest⟩
    refine (hg.block g (Array.getElem?_eq_some_iff.1 hc).1 (fun e => hne ?_)).trans hc
    rw [← e, hv]
    rfl
theorem row_keep {W W' : World} {base size n : Nat} {e : TypeId} {v : Value} {xs : List Value} {row : Option Nat} (ho : W.ownsRow base e size v n xs) (hg : W.grownBy W' row) (h : ∀ g, v.ownBlock = some g → some g ≠ row) : W'.ownsRow base e size v n xs := by
  obtain ⟨h1, h2⟩ := ho
  rcases h2 with h2 | ⟨g, cap, cur, rfl, hb, hblk, rest⟩
  · exact ⟨h1, .inl h2⟩
  · exact ⟨h1, .inr ⟨g, cap, cur, rfl, hb, grown_blk hg hblk (h g rfl), rest⟩⟩
theorem T.mergeB {P : Prop} (R : World → Nat → Value → Nat → Nat → Nat → Prop) {G : World → Nat → Value → Nat → Nat → Nat → Prop} (h1 : Hid (∀ w' b v c d e, R w' b v c d e → G w' b v c d e) → P) (h2 : ∀ w' b v c d e, R w' b v c d e → G w' b v c d e) : P := h1 (Lib.hid h2)
theorem T.mergeV1 {P : Prop} (R : World → Nat → Value → Prop) {G : World → Nat → Value → Prop} (h1 : Hid (∀ w' b v, R w' b v → G w' b v) → P) (h2 : ∀ w' b v, R w' b v → G w' b v) : P := h1 (Lib.hid h2)
theorem T.mergeV2 {P : Prop} (R : World → Nat → Value → Value → Prop) {G : World → Nat → Value → Value → Prop} (h1 : Hid (∀ w' b v c, R w' b v c → G w' b v c) → P) (h2 : ∀ w' b v c, R w' b v c → G w' b v c) : P := h1 (Lib.hid h2)
theorem max_run {a b c : Int} (h : Max.max a b = c) (ts : Array TypeId) (t' : TypeId) (w : World) : (Builtin.max_ ts t' #[.int .i64 a, .int .i64 b]).run Try.prog w = .ok (.int .i64 c) w := by
  have e : (if b > a then b else a) = c := by split <;> omega
  rw [run_max_int2, e]
theorem min_run {a b c : Int} (h : Min.min a b = c) (ts : Array TypeId) (t' : TypeId) (w : World) : (Builtin.min_ ts t' #[.int .i64 a, .int .i64 b]).run Try.prog w = .ok (.int .i64 c) w := by
  have e : (if b < a then b else a) = c := by split <;> omega
  rw [run_min_int2, e]
theorem T.cell_lt {w : World} {a : Addr} {v : Value} (h : w.cell? a = some v) : a.block < w.heap.size := by
  obtain ⟨b, j, sp⟩ := a
  cases hb : w.heap[b]? with
  | none => simp [World.cell?, hb] at h
  | some o => exact (Array.getElem?_eq_some_iff.1 hb).1
theorem Up.cell2 {w w1 : World} (u : Up w w1) {b j : Nat} {v : Value} (h : w.cell? ⟨b, j, none⟩ = some v) : w1.cell? ⟨b, j, none⟩ = some v :=
  (u.facts.1 b j (T.cell_lt h)).trans h

end Go.Proofs.Ytlpkheoljbdajaa
