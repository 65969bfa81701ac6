import Derived.Test.YtlpkheoljbdajaaLsW
/- Spans of all things: two of them are compared. -/
namespace Go.Proofs.Ytlpkheoljbdajaa
open Go.RowKit

theorem ktSps : Try.prog.keyTypeAt 3 147 = true := by kernel_rfl
theorem cSps : Try.prog.cellsOf 147 = 34 := by kernel_rfl
theorem cSpan : Try.prog.cellsOf 23 = 2 := by kernel_rfl
theorem kSpan {l h : Int} (hl : D.in64 l) (hh : D.in64 h) : Try.prog.keyLits 2 23 [.int .i64 l, .int .i64 h] = some [Lit.int .i64 l, Lit.int .i64 h] := by
  have w1 := hl.wf
  have w2 := hh.wf
  have c := cSpan
  have ci := intCells2
  simp [Program.keyLits, Try.underlying3, c, ci, w1, w2]
def T.l34 (lo hi : Int → Int) : List Lit := [.int .i64 (lo 0), .int .i64 (hi 0), .int .i64 (lo 1), .int .i64 (hi 1), .int .i64 (lo 2), .int .i64 (hi 2), .int .i64 (lo 3), .int .i64 (hi 3), .int .i64 (lo 4), .int .i64 (hi 4), .int .i64 (lo 5), .int .i64 (hi 5), .int .i64 (lo 6), .int .i64 (hi 6), .int .i64 (lo 7), .int .i64 (hi 7), .int .i64 (lo 8), .int .i64 (hi 8), .int .i64 (lo 9), .int .i64 (hi 9), .int .i64 (lo 10), .int .i64 (hi 10), .int .i64 (lo 11), .int .i64 (hi 11), .int .i64 (lo 12), .int .i64 (hi 12), .int .i64 (lo 13), .int .i64 (hi 13), .int .i64 (lo 14), .int .i64 (hi 14), .int .i64 (lo 15), .int .i64 (hi 15), .int .i64 (lo 16), .int .i64 (hi 16)]
theorem T.l34_inj (lo hi lo' hi' : Int → Int) : T.l34 lo hi = T.l34 lo' hi' ↔ ∀ i : Int, 0 ≤ i → i ≤ 16 → lo i = lo' i ∧ hi i = hi' i := by
  constructor
  · intro h i h1 h2
    unfold T.l34 at h
    simp only [List.cons.injEq, Lit.int.injEq, true_and, and_true] at h
    have hi17 : i = 0 ∨ i = 1 ∨ i = 2 ∨ i = 3 ∨ i = 4 ∨ i = 5 ∨ i = 6 ∨ i = 7 ∨ i = 8 ∨ i = 9 ∨ i = 10 ∨ i = 11 ∨ i = 12 ∨ i = 13 ∨ i = 14 ∨ i = 15 ∨ i = 16 := by omega
    rcases hi17 with rfl | rfl | rfl | rfl | rfl | rfl | rfl | rfl | rfl | rfl | rfl | rfl | rfl | rfl | rfl | rfl | rfl <;> simp only [h, and_self]
  · intro h
    unfold T.l34
    simp only [(h 0 (by omega) (by omega)).1, (h 0 (by omega) (by omega)).2, (h 1 (by omega) (by omega)).1, (h 1 (by omega) (by omega)).2, (h 2 (by omega) (by omega)).1, (h 2 (by omega) (by omega)).2, (h 3 (by omega) (by omega)).1, (h 3 (by omega) (by omega)).2, (h 4 (by omega) (by omega)).1, (h 4 (by omega) (by omega)).2, (h 5 (by omega) (by omega)).1, (h 5 (by omega) (by omega)).2, (h 6 (by omega) (by omega)).1, (h 6 (by omega) (by omega)).2, (h 7 (by omega) (by omega)).1, (h 7 (by omega) (by omega)).2, (h 8 (by omega) (by omega)).1, (h 8 (by omega) (by omega)).2, (h 9 (by omega) (by omega)).1, (h 9 (by omega) (by omega)).2, (h 10 (by omega) (by omega)).1, (h 10 (by omega) (by omega)).2, (h 11 (by omega) (by omega)).1, (h 11 (by omega) (by omega)).2, (h 12 (by omega) (by omega)).1, (h 12 (by omega) (by omega)).2, (h 13 (by omega) (by omega)).1, (h 13 (by omega) (by omega)).2, (h 14 (by omega) (by omega)).1, (h 14 (by omega) (by omega)).2, (h 15 (by omega) (by omega)).1, (h 15 (by omega) (by omega)).2, (h 16 (by omega) (by omega)).1, (h 16 (by omega) (by omega)).2]
def T.Fin2 (f : Int → Int) : Prop := ∀ m : Int, 0 ≤ m → m ≤ 16 → D.in64 (f m)
theorem klSps {cs : Array Value} {lo hi : Int → Int} (h : T.SC cs lo hi) (F : T.Fin2 lo) (G : T.Fin2 hi) : Try.prog.keyLits 3 147 cs.toList = some (T.l34 lo hi) := by
  have u := Try.underlying147
  unfold Program.keyLits
  simp only [u]
  rw [if_pos (by rw [Array.length_toList, h.size, cSps]), cSpan]
  rw [mapM_some _ (fun (i : Nat) => [Lit.int .i64 (lo i), Lit.int .i64 (hi i)])]
  · rfl
  · intro i hi'
    rw [List.mem_range] at hi'
    have e : (cs.toList.drop (i * 2)).take 2 = [.int .i64 (lo i), .int .i64 (hi i)] := by
      have s := h.size
      have q1 := h.lo_ i hi'
      have q2 := h.hi_ i hi'
      rw [Nat.mul_comm i 2]
      rw [List.drop_eq_getElem_cons (by rw [Array.length_toList, s]; omega), List.take_succ_cons, List.drop_eq_getElem_cons (by rw [Array.length_toList, s]; omega), List.take_succ_cons, List.take_zero]
      rw [Array.getElem?_eq_getElem (by rw [s]; omega)] at q1 q2
      simp only [Array.getElem_toList]
      rw [Option.some.inj q1, Option.some.inj q2]
    rw [e]
    exact kSpan (F i (by omega) (by omega)) (G i (by omega) (by omega))
theorem eqSps {cs cs' : Array Value} {lo hi lo' hi' : Int → Int} (h : T.SC cs lo hi) (h' : T.SC cs' lo' hi') (F : T.Fin2 lo) (G : T.Fin2 hi) (F' : T.Fin2 lo') (G' : T.Fin2 hi') : ∃ r : Bool, (r = true ↔ cs = cs') ∧ ∀ w, (Op.equalIn 10000 147 (.agg cs) (.agg cs')).run Try.prog w = .ok r w := by
  have hd := run_equalIn_deep (P := Try.prog) 9997 3 147 ktSps
  have u := Try.underlying147
  have f1 : (Value.agg cs).formed Try.prog 147 = true := by unfold Value.formed; simp only [u]; rw [h.size, cSps]; rfl
  have f2 : (Value.agg cs').formed Try.prog 147 = true := by unfold Value.formed; simp only [u]; rw [h'.size, cSps]; rfl
  haveI : Decidable (cs = cs') := Classical.propDecidable _
  refine ⟨decide (cs = cs'), by simp, fun w => ?_⟩
  obtain ⟨r, hr, hi⟩ := hd w 3 3 _ _ _ _ f1 f2 (klSps h F G) (klSps h' F' G')
  have e : r = decide (cs = cs') := by
    rw [Bool.eq_iff_iff, hi, decide_eq_true_iff, T.l34_inj]
    constructor
    · intro q; exact h.uniq h' (fun i h1 h2 => (q i h1 h2).1) (fun i h1 h2 => (q i h1 h2).2)
    · rintro rfl i h1 h2
      obtain ⟨k, rfl⟩ := Int.eq_ofNat_of_zero_le h1
      have a := (h.lo_ k (by omega)).symm.trans (h'.lo_ k (by omega))
      have b := (h.hi_ k (by omega)).symm.trans (h'.hi_ k (by omega))
      injection a with a; injection a with _ a
      injection b with b; injection b with _ b
      exact ⟨a, b⟩
  rw [e] at hr
  exact hr

end Go.Proofs.Ytlpkheoljbdajaa
