import Derived.Deep.Cut
import Derived.Test.YtlpkheoljbdajaaKnL
import Derived.Laws.MakeOwn
/- The law StarKnown: its head, and all joined. -/
namespace Go.Proofs.Ytlpkheoljbdajaa
open Go.RowKit Go.Shelf
attribute [local go_sem] Oper.semAt_some
theorem kn_infoL : (Try.prog.info? 63).map (fun i => (i.zero, i.size, i.bytes)) = some (some (.agg #[.int .i64 0, .int .i64 0, .int .i64 0, .int .i64 0, .int .i64 0]), 5, 40) := by kernel_rfl
theorem kn_make (w : World) : (Instr.makeSlice 25 (.int .i64 11) (.int .i64 11)).run Try.prog w = .ok (.slice (some ⟨w.heap.size, 0, none⟩) 11 11) (w.alloc (.cells (Array.replicate 55 (.int .i64 0)) 63)) := by
  obtain ⟨i0, hi, hz0, hz1, hz2⟩ := info_parts kn_infoL
  have q := run_make (P := Try.prog) w 25 63 i0 _ Try.underlying25 hi hz0 .i64 .i64 11 11 (by omega) (Int.le_refl _) (by rw [hz2]; omega) (by omega)
  rw [hz1] at q
  have e : madeCells (Value.agg #[.int .i64 0, .int .i64 0, .int .i64 0, .int .i64 0, .int .i64 0]).cells ((11 : Int).toNat * 5) = Array.replicate 55 (.int .i64 0) := by kernel_rfl
  rw [e] at q
  exact q
set_option maxRecDepth 1000000 in
set_option maxHeartbeats 8000000 in
set_option linter.unusedSimpArgs false in
theorem starKnown_any (w0 : World) : Calls Try.prog 16 #[] w0 fun e w' => e = .returned (.bool true) ∧ Up w0 w' := by
  have U := Up.refl w0
  go_enter Try.func16, Try.ntmps16
  go_wp2_with fail
  refine (l_book_nil _).mono ?_
  rintro e x1 ⟨⟨g1, g2, aL, cL, rfl, I, J, K⟩, u2⟩
  replace U := U.trans u2
  clear u2 
  have HI := Lib.hid (fun w' (u : Up x1 w') => I.up u)
  have HJ := Lib.hid (fun w' (u : Up x1 w') => J.up u)
  have HK := Lib.hid (fun w' (u : Up x1 w') => K.up u)
  have V := Up.refl x1
  clear I J K
  have gkb := U.size
  have kb := blk_new x1 (.cells (BoC 3 0 100 (-10) 20 (.slice (some ⟨g1, 0, none⟩) 2 2) (.slice (some ⟨g2, 0, none⟩) 1 1) (.slice aL 4 cL)) 27) _ rfl
  replace U := U.alloc (.cells (BoC 3 0 100 (-10) 20 (.slice (some ⟨g1, 0, none⟩) 2 2) (.slice (some ⟨g2, 0, none⟩) 1 1) (.slice aL 4 cL)) 27)
  replace V := V.alloc (.cells (BoC 3 0 100 (-10) 20 (.slice (some ⟨g1, 0, none⟩) 2 2) (.slice (some ⟨g2, 0, none⟩) 1 1) (.slice aL 4 cL)) 27)
  obtain ⟨pkb, hpkb⟩ : ∃ z, x1.heap.size = z := ⟨_, rfl⟩
  obtain ⟨W3, hW3⟩ : ∃ z, x1.alloc (.cells (BoC 3 0 100 (-10) 20 (.slice (some ⟨g1, 0, none⟩) 2 2) (.slice (some ⟨g2, 0, none⟩) 1 1) (.slice aL 4 cL)) 27) = z := ⟨_, rfl⟩
  rw [hpkb] at kb gkb
  rw [hW3] at kb U V
  go_upto_region 2 with (fail)
  clear hpkb hW3
  have gV := V.size
  have i0 := kb
  have dkbkq := blk_lt kb
  have gkq := U.size
  have kq := blk_new W3 (.cells #[.int .i64 0, .int .i64 0, .int .i64 0, .int .i64 0, .int .i64 0, .slice none 0 0, .slice none 0 0, .slice none 0 0, .int .i64 3, .int .i64 0, .int .i64 100, .int .i64 (-10), .int .i64 20, .slice (some ⟨g1, 0, none⟩) 2 2, .slice (some ⟨g2, 0, none⟩) 1 1, .slice aL 4 cL, .int .i64 3, .int .i64 0, .int .i64 100, .int .i64 (-10), .int .i64 20, .slice (some ⟨g1, 0, none⟩) 2 2, .slice (some ⟨g2, 0, none⟩) 1 1, .slice aL 4 cL, .int .i64 3, .int .i64 0, .int .i64 100, .int .i64 (-10), .int .i64 20, .slice (some ⟨g1, 0, none⟩) 2 2, .slice (some ⟨g2, 0, none⟩) 1 1, .slice aL 4 cL, .int .i64 3, .int .i64 0, .int .i64 100, .int .i64 (-10), .int .i64 20, .slice (some ⟨g1, 0, none⟩) 2 2, .slice (some ⟨g2, 0, none⟩) 1 1, .slice aL 4 cL, .int .i64 3, .int .i64 0, .int .i64 100, .int .i64 (-10), .int .i64 20, .slice (some ⟨g1, 0, none⟩) 2 2, .slice (some ⟨g2, 0, none⟩) 1 1, .slice aL 4 cL, .int .i64 3, .int .i64 0, .int .i64 100, .int .i64 (-10), .int .i64 20, .slice (some ⟨g1, 0, none⟩) 2 2, .slice (some ⟨g2, 0, none⟩) 1 1, .slice aL 4 cL, .int .i64 3, .int .i64 0, .int .i64 100, .int .i64 (-10), .int .i64 20, .slice (some ⟨g1, 0, none⟩) 2 2, .slice (some ⟨g2, 0, none⟩) 1 1, .slice aL 4 cL, .int .i64 3, .int .i64 0, .int .i64 100, .int .i64 (-10), .int .i64 20, .slice (some ⟨g1, 0, none⟩) 2 2, .slice (some ⟨g2, 0, none⟩) 1 1, .slice aL 4 cL, .int .i64 3, .int .i64 0, .int .i64 100, .int .i64 (-10), .int .i64 20, .slice (some ⟨g1, 0, none⟩) 2 2, .slice (some ⟨g2, 0, none⟩) 1 1, .slice aL 4 cL, .int .i64 3, .int .i64 0, .int .i64 100, .int .i64 (-10), .int .i64 20, .slice (some ⟨g1, 0, none⟩) 2 2, .slice (some ⟨g2, 0, none⟩) 1 1, .slice aL 4 cL, .int .i64 3, .int .i64 0, .int .i64 100, .int .i64 (-10), .int .i64 20, .slice (some ⟨g1, 0, none⟩) 2 2, .slice (some ⟨g2, 0, none⟩) 1 1, .slice aL 4 cL] 27) _ rfl
  replace kb := blk_keep (.cells #[.int .i64 0, .int .i64 0, .int .i64 0, .int .i64 0, .int .i64 0, .slice none 0 0, .slice none 0 0, .slice none 0 0, .int .i64 3, .int .i64 0, .int .i64 100, .int .i64 (-10), .int .i64 20, .slice (some ⟨g1, 0, none⟩) 2 2, .slice (some ⟨g2, 0, none⟩) 1 1, .slice aL 4 cL, .int .i64 3, .int .i64 0, .int .i64 100, .int .i64 (-10), .int .i64 20, .slice (some ⟨g1, 0, none⟩) 2 2, .slice (some ⟨g2, 0, none⟩) 1 1, .slice aL 4 cL, .int .i64 3, .int .i64 0, .int .i64 100, .int .i64 (-10), .int .i64 20, .slice (some ⟨g1, 0, none⟩) 2 2, .slice (some ⟨g2, 0, none⟩) 1 1, .slice aL 4 cL, .int .i64 3, .int .i64 0, .int .i64 100, .int .i64 (-10), .int .i64 20, .slice (some ⟨g1, 0, none⟩) 2 2, .slice (some ⟨g2, 0, none⟩) 1 1, .slice aL 4 cL, .int .i64 3, .int .i64 0, .int .i64 100, .int .i64 (-10), .int .i64 20, .slice (some ⟨g1, 0, none⟩) 2 2, .slice (some ⟨g2, 0, none⟩) 1 1, .slice aL 4 cL, .int .i64 3, .int .i64 0, .int .i64 100, .int .i64 (-10), .int .i64 20, .slice (some ⟨g1, 0, none⟩) 2 2, .slice (some ⟨g2, 0, none⟩) 1 1, .slice aL 4 cL, .int .i64 3, .int .i64 0, .int .i64 100, .int .i64 (-10), .int .i64 20, .slice (some ⟨g1, 0, none⟩) 2 2, .slice (some ⟨g2, 0, none⟩) 1 1, .slice aL 4 cL, .int .i64 3, .int .i64 0, .int .i64 100, .int .i64 (-10), .int .i64 20, .slice (some ⟨g1, 0, none⟩) 2 2, .slice (some ⟨g2, 0, none⟩) 1 1, .slice aL 4 cL, .int .i64 3, .int .i64 0, .int .i64 100, .int .i64 (-10), .int .i64 20, .slice (some ⟨g1, 0, none⟩) 2 2, .slice (some ⟨g2, 0, none⟩) 1 1, .slice aL 4 cL, .int .i64 3, .int .i64 0, .int .i64 100, .int .i64 (-10), .int .i64 20, .slice (some ⟨g1, 0, none⟩) 2 2, .slice (some ⟨g2, 0, none⟩) 1 1, .slice aL 4 cL, .int .i64 3, .int .i64 0, .int .i64 100, .int .i64 (-10), .int .i64 20, .slice (some ⟨g1, 0, none⟩) 2 2, .slice (some ⟨g2, 0, none⟩) 1 1, .slice aL 4 cL] 27) kb
  replace U := U.alloc (.cells #[.int .i64 0, .int .i64 0, .int .i64 0, .int .i64 0, .int .i64 0, .slice none 0 0, .slice none 0 0, .slice none 0 0, .int .i64 3, .int .i64 0, .int .i64 100, .int .i64 (-10), .int .i64 20, .slice (some ⟨g1, 0, none⟩) 2 2, .slice (some ⟨g2, 0, none⟩) 1 1, .slice aL 4 cL, .int .i64 3, .int .i64 0, .int .i64 100, .int .i64 (-10), .int .i64 20, .slice (some ⟨g1, 0, none⟩) 2 2, .slice (some ⟨g2, 0, none⟩) 1 1, .slice aL 4 cL, .int .i64 3, .int .i64 0, .int .i64 100, .int .i64 (-10), .int .i64 20, .slice (some ⟨g1, 0, none⟩) 2 2, .slice (some ⟨g2, 0, none⟩) 1 1, .slice aL 4 cL, .int .i64 3, .int .i64 0, .int .i64 100, .int .i64 (-10), .int .i64 20, .slice (some ⟨g1, 0, none⟩) 2 2, .slice (some ⟨g2, 0, none⟩) 1 1, .slice aL 4 cL, .int .i64 3, .int .i64 0, .int .i64 100, .int .i64 (-10), .int .i64 20, .slice (some ⟨g1, 0, none⟩) 2 2, .slice (some ⟨g2, 0, none⟩) 1 1, .slice aL 4 cL, .int .i64 3, .int .i64 0, .int .i64 100, .int .i64 (-10), .int .i64 20, .slice (some ⟨g1, 0, none⟩) 2 2, .slice (some ⟨g2, 0, none⟩) 1 1, .slice aL 4 cL, .int .i64 3, .int .i64 0, .int .i64 100, .int .i64 (-10), .int .i64 20, .slice (some ⟨g1, 0, none⟩) 2 2, .slice (some ⟨g2, 0, none⟩) 1 1, .slice aL 4 cL, .int .i64 3, .int .i64 0, .int .i64 100, .int .i64 (-10), .int .i64 20, .slice (some ⟨g1, 0, none⟩) 2 2, .slice (some ⟨g2, 0, none⟩) 1 1, .slice aL 4 cL, .int .i64 3, .int .i64 0, .int .i64 100, .int .i64 (-10), .int .i64 20, .slice (some ⟨g1, 0, none⟩) 2 2, .slice (some ⟨g2, 0, none⟩) 1 1, .slice aL 4 cL, .int .i64 3, .int .i64 0, .int .i64 100, .int .i64 (-10), .int .i64 20, .slice (some ⟨g1, 0, none⟩) 2 2, .slice (some ⟨g2, 0, none⟩) 1 1, .slice aL 4 cL, .int .i64 3, .int .i64 0, .int .i64 100, .int .i64 (-10), .int .i64 20, .slice (some ⟨g1, 0, none⟩) 2 2, .slice (some ⟨g2, 0, none⟩) 1 1, .slice aL 4 cL] 27)
  replace V := V.alloc (.cells #[.int .i64 0, .int .i64 0, .int .i64 0, .int .i64 0, .int .i64 0, .slice none 0 0, .slice none 0 0, .slice none 0 0, .int .i64 3, .int .i64 0, .int .i64 100, .int .i64 (-10), .int .i64 20, .slice (some ⟨g1, 0, none⟩) 2 2, .slice (some ⟨g2, 0, none⟩) 1 1, .slice aL 4 cL, .int .i64 3, .int .i64 0, .int .i64 100, .int .i64 (-10), .int .i64 20, .slice (some ⟨g1, 0, none⟩) 2 2, .slice (some ⟨g2, 0, none⟩) 1 1, .slice aL 4 cL, .int .i64 3, .int .i64 0, .int .i64 100, .int .i64 (-10), .int .i64 20, .slice (some ⟨g1, 0, none⟩) 2 2, .slice (some ⟨g2, 0, none⟩) 1 1, .slice aL 4 cL, .int .i64 3, .int .i64 0, .int .i64 100, .int .i64 (-10), .int .i64 20, .slice (some ⟨g1, 0, none⟩) 2 2, .slice (some ⟨g2, 0, none⟩) 1 1, .slice aL 4 cL, .int .i64 3, .int .i64 0, .int .i64 100, .int .i64 (-10), .int .i64 20, .slice (some ⟨g1, 0, none⟩) 2 2, .slice (some ⟨g2, 0, none⟩) 1 1, .slice aL 4 cL, .int .i64 3, .int .i64 0, .int .i64 100, .int .i64 (-10), .int .i64 20, .slice (some ⟨g1, 0, none⟩) 2 2, .slice (some ⟨g2, 0, none⟩) 1 1, .slice aL 4 cL, .int .i64 3, .int .i64 0, .int .i64 100, .int .i64 (-10), .int .i64 20, .slice (some ⟨g1, 0, none⟩) 2 2, .slice (some ⟨g2, 0, none⟩) 1 1, .slice aL 4 cL, .int .i64 3, .int .i64 0, .int .i64 100, .int .i64 (-10), .int .i64 20, .slice (some ⟨g1, 0, none⟩) 2 2, .slice (some ⟨g2, 0, none⟩) 1 1, .slice aL 4 cL, .int .i64 3, .int .i64 0, .int .i64 100, .int .i64 (-10), .int .i64 20, .slice (some ⟨g1, 0, none⟩) 2 2, .slice (some ⟨g2, 0, none⟩) 1 1, .slice aL 4 cL, .int .i64 3, .int .i64 0, .int .i64 100, .int .i64 (-10), .int .i64 20, .slice (some ⟨g1, 0, none⟩) 2 2, .slice (some ⟨g2, 0, none⟩) 1 1, .slice aL 4 cL, .int .i64 3, .int .i64 0, .int .i64 100, .int .i64 (-10), .int .i64 20, .slice (some ⟨g1, 0, none⟩) 2 2, .slice (some ⟨g2, 0, none⟩) 1 1, .slice aL 4 cL] 27)
  obtain ⟨pkq, hpkq⟩ : ∃ z, W3.heap.size = z := ⟨_, rfl⟩
  obtain ⟨W4, hW4⟩ : ∃ z, W3.alloc (.cells #[.int .i64 0, .int .i64 0, .int .i64 0, .int .i64 0, .int .i64 0, .slice none 0 0, .slice none 0 0, .slice none 0 0, .int .i64 3, .int .i64 0, .int .i64 100, .int .i64 (-10), .int .i64 20, .slice (some ⟨g1, 0, none⟩) 2 2, .slice (some ⟨g2, 0, none⟩) 1 1, .slice aL 4 cL, .int .i64 3, .int .i64 0, .int .i64 100, .int .i64 (-10), .int .i64 20, .slice (some ⟨g1, 0, none⟩) 2 2, .slice (some ⟨g2, 0, none⟩) 1 1, .slice aL 4 cL, .int .i64 3, .int .i64 0, .int .i64 100, .int .i64 (-10), .int .i64 20, .slice (some ⟨g1, 0, none⟩) 2 2, .slice (some ⟨g2, 0, none⟩) 1 1, .slice aL 4 cL, .int .i64 3, .int .i64 0, .int .i64 100, .int .i64 (-10), .int .i64 20, .slice (some ⟨g1, 0, none⟩) 2 2, .slice (some ⟨g2, 0, none⟩) 1 1, .slice aL 4 cL, .int .i64 3, .int .i64 0, .int .i64 100, .int .i64 (-10), .int .i64 20, .slice (some ⟨g1, 0, none⟩) 2 2, .slice (some ⟨g2, 0, none⟩) 1 1, .slice aL 4 cL, .int .i64 3, .int .i64 0, .int .i64 100, .int .i64 (-10), .int .i64 20, .slice (some ⟨g1, 0, none⟩) 2 2, .slice (some ⟨g2, 0, none⟩) 1 1, .slice aL 4 cL, .int .i64 3, .int .i64 0, .int .i64 100, .int .i64 (-10), .int .i64 20, .slice (some ⟨g1, 0, none⟩) 2 2, .slice (some ⟨g2, 0, none⟩) 1 1, .slice aL 4 cL, .int .i64 3, .int .i64 0, .int .i64 100, .int .i64 (-10), .int .i64 20, .slice (some ⟨g1, 0, none⟩) 2 2, .slice (some ⟨g2, 0, none⟩) 1 1, .slice aL 4 cL, .int .i64 3, .int .i64 0, .int .i64 100, .int .i64 (-10), .int .i64 20, .slice (some ⟨g1, 0, none⟩) 2 2, .slice (some ⟨g2, 0, none⟩) 1 1, .slice aL 4 cL, .int .i64 3, .int .i64 0, .int .i64 100, .int .i64 (-10), .int .i64 20, .slice (some ⟨g1, 0, none⟩) 2 2, .slice (some ⟨g2, 0, none⟩) 1 1, .slice aL 4 cL, .int .i64 3, .int .i64 0, .int .i64 100, .int .i64 (-10), .int .i64 20, .slice (some ⟨g1, 0, none⟩) 2 2, .slice (some ⟨g2, 0, none⟩) 1 1, .slice aL 4 cL] 27) = z := ⟨_, rfl⟩
  rw [hpkq] at kq dkbkq gkq
  rw [hW4] at kq U kb V
  skip
  rw [hpkq] at gV
  go_upto_region 3 with (fail)
  clear i0 hpkq hW4
  have zf := frozB kq
  have i0 := kq
  have U1 := (U.set (p := ⟨pkq, 8, none⟩) (show w0.heap.size ≤ pkq by omega) (.int .i64 9))
  have VV := (V.set (p := ⟨pkq, 8, none⟩) (show x1.heap.size ≤ pkq by omega) (.int .i64 9))
  have jkb := kb
  rw [← blk_set (W4) ⟨pkq, 8, none⟩ (.int .i64 9) (pkb) (by show pkb ≠ pkq; omega)] at jkb
  have jkq : mblk ((W4).setCell ⟨pkq, 8, none⟩ (.int .i64 9)) pkq = some (.cells #[.int .i64 0, .int .i64 0, .int .i64 0, .int .i64 0, .int .i64 0, .slice none 0 0, .slice none 0 0, .slice none 0 0, .int .i64 9, .int .i64 0, .int .i64 100, .int .i64 (-10), .int .i64 20, .slice (some ⟨g1, 0, none⟩) 2 2, .slice (some ⟨g2, 0, none⟩) 1 1, .slice aL 4 cL, .int .i64 3, .int .i64 0, .int .i64 100, .int .i64 (-10), .int .i64 20, .slice (some ⟨g1, 0, none⟩) 2 2, .slice (some ⟨g2, 0, none⟩) 1 1, .slice aL 4 cL, .int .i64 3, .int .i64 0, .int .i64 100, .int .i64 (-10), .int .i64 20, .slice (some ⟨g1, 0, none⟩) 2 2, .slice (some ⟨g2, 0, none⟩) 1 1, .slice aL 4 cL, .int .i64 3, .int .i64 0, .int .i64 100, .int .i64 (-10), .int .i64 20, .slice (some ⟨g1, 0, none⟩) 2 2, .slice (some ⟨g2, 0, none⟩) 1 1, .slice aL 4 cL, .int .i64 3, .int .i64 0, .int .i64 100, .int .i64 (-10), .int .i64 20, .slice (some ⟨g1, 0, none⟩) 2 2, .slice (some ⟨g2, 0, none⟩) 1 1, .slice aL 4 cL, .int .i64 3, .int .i64 0, .int .i64 100, .int .i64 (-10), .int .i64 20, .slice (some ⟨g1, 0, none⟩) 2 2, .slice (some ⟨g2, 0, none⟩) 1 1, .slice aL 4 cL, .int .i64 3, .int .i64 0, .int .i64 100, .int .i64 (-10), .int .i64 20, .slice (some ⟨g1, 0, none⟩) 2 2, .slice (some ⟨g2, 0, none⟩) 1 1, .slice aL 4 cL, .int .i64 3, .int .i64 0, .int .i64 100, .int .i64 (-10), .int .i64 20, .slice (some ⟨g1, 0, none⟩) 2 2, .slice (some ⟨g2, 0, none⟩) 1 1, .slice aL 4 cL, .int .i64 3, .int .i64 0, .int .i64 100, .int .i64 (-10), .int .i64 20, .slice (some ⟨g1, 0, none⟩) 2 2, .slice (some ⟨g2, 0, none⟩) 1 1, .slice aL 4 cL, .int .i64 3, .int .i64 0, .int .i64 100, .int .i64 (-10), .int .i64 20, .slice (some ⟨g1, 0, none⟩) 2 2, .slice (some ⟨g2, 0, none⟩) 1 1, .slice aL 4 cL, .int .i64 3, .int .i64 0, .int .i64 100, .int .i64 (-10), .int .i64 20, .slice (some ⟨g1, 0, none⟩) 2 2, .slice (some ⟨g2, 0, none⟩) 1 1, .slice aL 4 cL] 27 (0, 0)) := (blk_put kq 8 (.int .i64 9))
  obtain ⟨W5, hW5⟩ : ∃ z, (W4).setCell ⟨pkq, 8, none⟩ (.int .i64 9) = z := ⟨_, rfl⟩
  rw [hW5] at jkb jkq U1 VV
  clear V
  have V := VV
  clear VV
  clear kb kq U
  have kb := jkb
  have kq := jkq
  have U := U1
  clear jkb jkq U1
  go_upto_region 4 with (fail)
  clear hW5 zf i0
  go_wp2_with fail
  refine (B_To_any 1 0 _).mono ?_
  rintro e x6 ⟨rfl, u7⟩
  replace U := U.trans u7
  replace kb := u7.blk kb
  replace kq := u7.blk kq
  replace V := V.trans u7
  clear u7 
  have zf := frozB kq
  have i0 := kq
  have U1 := ((U.set (p := ⟨pkq, 17, none⟩) (show w0.heap.size ≤ pkq by omega) (.int .i64 1)).set (p := ⟨pkq, 18, none⟩) (show w0.heap.size ≤ pkq by omega) (.int .i64 0))
  have VV := ((V.set (p := ⟨pkq, 17, none⟩) (show x1.heap.size ≤ pkq by omega) (.int .i64 1)).set (p := ⟨pkq, 18, none⟩) (show x1.heap.size ≤ pkq by omega) (.int .i64 0))
  have jkb := kb
  rw [← blk_set (x6) ⟨pkq, 17, none⟩ (.int .i64 1) (pkb) (by show pkb ≠ pkq; omega), ← blk_set ((x6).setCell ⟨pkq, 17, none⟩ (.int .i64 1)) ⟨pkq, 18, none⟩ (.int .i64 0) (pkb) (by show pkb ≠ pkq; omega)] at jkb
  have jkq : mblk (((x6).setCell ⟨pkq, 17, none⟩ (.int .i64 1)).setCell ⟨pkq, 18, none⟩ (.int .i64 0)) pkq = some (.cells #[.int .i64 0, .int .i64 0, .int .i64 0, .int .i64 0, .int .i64 0, .slice none 0 0, .slice none 0 0, .slice none 0 0, .int .i64 9, .int .i64 0, .int .i64 100, .int .i64 (-10), .int .i64 20, .slice (some ⟨g1, 0, none⟩) 2 2, .slice (some ⟨g2, 0, none⟩) 1 1, .slice aL 4 cL, .int .i64 3, .int .i64 1, .int .i64 0, .int .i64 (-10), .int .i64 20, .slice (some ⟨g1, 0, none⟩) 2 2, .slice (some ⟨g2, 0, none⟩) 1 1, .slice aL 4 cL, .int .i64 3, .int .i64 0, .int .i64 100, .int .i64 (-10), .int .i64 20, .slice (some ⟨g1, 0, none⟩) 2 2, .slice (some ⟨g2, 0, none⟩) 1 1, .slice aL 4 cL, .int .i64 3, .int .i64 0, .int .i64 100, .int .i64 (-10), .int .i64 20, .slice (some ⟨g1, 0, none⟩) 2 2, .slice (some ⟨g2, 0, none⟩) 1 1, .slice aL 4 cL, .int .i64 3, .int .i64 0, .int .i64 100, .int .i64 (-10), .int .i64 20, .slice (some ⟨g1, 0, none⟩) 2 2, .slice (some ⟨g2, 0, none⟩) 1 1, .slice aL 4 cL, .int .i64 3, .int .i64 0, .int .i64 100, .int .i64 (-10), .int .i64 20, .slice (some ⟨g1, 0, none⟩) 2 2, .slice (some ⟨g2, 0, none⟩) 1 1, .slice aL 4 cL, .int .i64 3, .int .i64 0, .int .i64 100, .int .i64 (-10), .int .i64 20, .slice (some ⟨g1, 0, none⟩) 2 2, .slice (some ⟨g2, 0, none⟩) 1 1, .slice aL 4 cL, .int .i64 3, .int .i64 0, .int .i64 100, .int .i64 (-10), .int .i64 20, .slice (some ⟨g1, 0, none⟩) 2 2, .slice (some ⟨g2, 0, none⟩) 1 1, .slice aL 4 cL, .int .i64 3, .int .i64 0, .int .i64 100, .int .i64 (-10), .int .i64 20, .slice (some ⟨g1, 0, none⟩) 2 2, .slice (some ⟨g2, 0, none⟩) 1 1, .slice aL 4 cL, .int .i64 3, .int .i64 0, .int .i64 100, .int .i64 (-10), .int .i64 20, .slice (some ⟨g1, 0, none⟩) 2 2, .slice (some ⟨g2, 0, none⟩) 1 1, .slice aL 4 cL, .int .i64 3, .int .i64 0, .int .i64 100, .int .i64 (-10), .int .i64 20, .slice (some ⟨g1, 0, none⟩) 2 2, .slice (some ⟨g2, 0, none⟩) 1 1, .slice aL 4 cL] 27 (0, 0)) := (blk_put (blk_put kq 17 (.int .i64 1)) 18 (.int .i64 0))
  obtain ⟨W8, hW8⟩ : ∃ z, ((x6).setCell ⟨pkq, 17, none⟩ (.int .i64 1)).setCell ⟨pkq, 18, none⟩ (.int .i64 0) = z := ⟨_, rfl⟩
  rw [hW8] at jkb jkq U1 VV
  clear V
  have V := VV
  clear VV
  clear kb kq U
  have kb := jkb
  have kq := jkq
  have U := U1
  clear jkb jkq U1
  go_upto_region 5 with (fail)
  clear hW8 zf i0
  go_wp2_with fail
  refine (B_To_any 0 20001 _).mono ?_
  rintro e x9 ⟨rfl, u10⟩
  replace U := U.trans u10
  replace kb := u10.blk kb
  replace kq := u10.blk kq
  replace V := V.trans u10
  clear u10 
  have zf := frozB kq
  have i0 := kq
  have U1 := ((U.set (p := ⟨pkq, 25, none⟩) (show w0.heap.size ≤ pkq by omega) (.int .i64 0)).set (p := ⟨pkq, 26, none⟩) (show w0.heap.size ≤ pkq by omega) (.int .i64 20001))
  have VV := ((V.set (p := ⟨pkq, 25, none⟩) (show x1.heap.size ≤ pkq by omega) (.int .i64 0)).set (p := ⟨pkq, 26, none⟩) (show x1.heap.size ≤ pkq by omega) (.int .i64 20001))
  have jkb := kb
  rw [← blk_set (x9) ⟨pkq, 25, none⟩ (.int .i64 0) (pkb) (by show pkb ≠ pkq; omega), ← blk_set ((x9).setCell ⟨pkq, 25, none⟩ (.int .i64 0)) ⟨pkq, 26, none⟩ (.int .i64 20001) (pkb) (by show pkb ≠ pkq; omega)] at jkb
  have jkq : mblk (((x9).setCell ⟨pkq, 25, none⟩ (.int .i64 0)).setCell ⟨pkq, 26, none⟩ (.int .i64 20001)) pkq = some (.cells #[.int .i64 0, .int .i64 0, .int .i64 0, .int .i64 0, .int .i64 0, .slice none 0 0, .slice none 0 0, .slice none 0 0, .int .i64 9, .int .i64 0, .int .i64 100, .int .i64 (-10), .int .i64 20, .slice (some ⟨g1, 0, none⟩) 2 2, .slice (some ⟨g2, 0, none⟩) 1 1, .slice aL 4 cL, .int .i64 3, .int .i64 1, .int .i64 0, .int .i64 (-10), .int .i64 20, .slice (some ⟨g1, 0, none⟩) 2 2, .slice (some ⟨g2, 0, none⟩) 1 1, .slice aL 4 cL, .int .i64 3, .int .i64 0, .int .i64 20001, .int .i64 (-10), .int .i64 20, .slice (some ⟨g1, 0, none⟩) 2 2, .slice (some ⟨g2, 0, none⟩) 1 1, .slice aL 4 cL, .int .i64 3, .int .i64 0, .int .i64 100, .int .i64 (-10), .int .i64 20, .slice (some ⟨g1, 0, none⟩) 2 2, .slice (some ⟨g2, 0, none⟩) 1 1, .slice aL 4 cL, .int .i64 3, .int .i64 0, .int .i64 100, .int .i64 (-10), .int .i64 20, .slice (some ⟨g1, 0, none⟩) 2 2, .slice (some ⟨g2, 0, none⟩) 1 1, .slice aL 4 cL, .int .i64 3, .int .i64 0, .int .i64 100, .int .i64 (-10), .int .i64 20, .slice (some ⟨g1, 0, none⟩) 2 2, .slice (some ⟨g2, 0, none⟩) 1 1, .slice aL 4 cL, .int .i64 3, .int .i64 0, .int .i64 100, .int .i64 (-10), .int .i64 20, .slice (some ⟨g1, 0, none⟩) 2 2, .slice (some ⟨g2, 0, none⟩) 1 1, .slice aL 4 cL, .int .i64 3, .int .i64 0, .int .i64 100, .int .i64 (-10), .int .i64 20, .slice (some ⟨g1, 0, none⟩) 2 2, .slice (some ⟨g2, 0, none⟩) 1 1, .slice aL 4 cL, .int .i64 3, .int .i64 0, .int .i64 100, .int .i64 (-10), .int .i64 20, .slice (some ⟨g1, 0, none⟩) 2 2, .slice (some ⟨g2, 0, none⟩) 1 1, .slice aL 4 cL, .int .i64 3, .int .i64 0, .int .i64 100, .int .i64 (-10), .int .i64 20, .slice (some ⟨g1, 0, none⟩) 2 2, .slice (some ⟨g2, 0, none⟩) 1 1, .slice aL 4 cL, .int .i64 3, .int .i64 0, .int .i64 100, .int .i64 (-10), .int .i64 20, .slice (some ⟨g1, 0, none⟩) 2 2, .slice (some ⟨g2, 0, none⟩) 1 1, .slice aL 4 cL] 27 (0, 0)) := (blk_put (blk_put kq 25 (.int .i64 0)) 26 (.int .i64 20001))
  obtain ⟨W11, hW11⟩ : ∃ z, ((x9).setCell ⟨pkq, 25, none⟩ (.int .i64 0)).setCell ⟨pkq, 26, none⟩ (.int .i64 20001) = z := ⟨_, rfl⟩
  rw [hW11] at jkb jkq U1 VV
  clear V
  have V := VV
  clear VV
  clear kb kq U
  have kb := jkb
  have kq := jkq
  have U := U1
  clear jkb jkq U1
  go_upto_region 6 with (fail)
  clear hW11 zf i0
  go_wp2_with fail
  refine (B_To_any (-1001) 0 _).mono ?_
  rintro e x12 ⟨rfl, u13⟩
  replace U := U.trans u13
  replace kb := u13.blk kb
  replace kq := u13.blk kq
  replace V := V.trans u13
  clear u13 
  have zf := frozB kq
  have i0 := kq
  have U1 := ((U.set (p := ⟨pkq, 35, none⟩) (show w0.heap.size ≤ pkq by omega) (.int .i64 (-1001))).set (p := ⟨pkq, 36, none⟩) (show w0.heap.size ≤ pkq by omega) (.int .i64 0))
  have VV := ((V.set (p := ⟨pkq, 35, none⟩) (show x1.heap.size ≤ pkq by omega) (.int .i64 (-1001))).set (p := ⟨pkq, 36, none⟩) (show x1.heap.size ≤ pkq by omega) (.int .i64 0))
  have jkb := kb
  rw [← blk_set (x12) ⟨pkq, 35, none⟩ (.int .i64 (-1001)) (pkb) (by show pkb ≠ pkq; omega), ← blk_set ((x12).setCell ⟨pkq, 35, none⟩ (.int .i64 (-1001))) ⟨pkq, 36, none⟩ (.int .i64 0) (pkb) (by show pkb ≠ pkq; omega)] at jkb
  have jkq : mblk (((x12).setCell ⟨pkq, 35, none⟩ (.int .i64 (-1001))).setCell ⟨pkq, 36, none⟩ (.int .i64 0)) pkq = some (.cells #[.int .i64 0, .int .i64 0, .int .i64 0, .int .i64 0, .int .i64 0, .slice none 0 0, .slice none 0 0, .slice none 0 0, .int .i64 9, .int .i64 0, .int .i64 100, .int .i64 (-10), .int .i64 20, .slice (some ⟨g1, 0, none⟩) 2 2, .slice (some ⟨g2, 0, none⟩) 1 1, .slice aL 4 cL, .int .i64 3, .int .i64 1, .int .i64 0, .int .i64 (-10), .int .i64 20, .slice (some ⟨g1, 0, none⟩) 2 2, .slice (some ⟨g2, 0, none⟩) 1 1, .slice aL 4 cL, .int .i64 3, .int .i64 0, .int .i64 20001, .int .i64 (-10), .int .i64 20, .slice (some ⟨g1, 0, none⟩) 2 2, .slice (some ⟨g2, 0, none⟩) 1 1, .slice aL 4 cL, .int .i64 3, .int .i64 0, .int .i64 100, .int .i64 (-1001), .int .i64 0, .slice (some ⟨g1, 0, none⟩) 2 2, .slice (some ⟨g2, 0, none⟩) 1 1, .slice aL 4 cL, .int .i64 3, .int .i64 0, .int .i64 100, .int .i64 (-10), .int .i64 20, .slice (some ⟨g1, 0, none⟩) 2 2, .slice (some ⟨g2, 0, none⟩) 1 1, .slice aL 4 cL, .int .i64 3, .int .i64 0, .int .i64 100, .int .i64 (-10), .int .i64 20, .slice (some ⟨g1, 0, none⟩) 2 2, .slice (some ⟨g2, 0, none⟩) 1 1, .slice aL 4 cL, .int .i64 3, .int .i64 0, .int .i64 100, .int .i64 (-10), .int .i64 20, .slice (some ⟨g1, 0, none⟩) 2 2, .slice (some ⟨g2, 0, none⟩) 1 1, .slice aL 4 cL, .int .i64 3, .int .i64 0, .int .i64 100, .int .i64 (-10), .int .i64 20, .slice (some ⟨g1, 0, none⟩) 2 2, .slice (some ⟨g2, 0, none⟩) 1 1, .slice aL 4 cL, .int .i64 3, .int .i64 0, .int .i64 100, .int .i64 (-10), .int .i64 20, .slice (some ⟨g1, 0, none⟩) 2 2, .slice (some ⟨g2, 0, none⟩) 1 1, .slice aL 4 cL, .int .i64 3, .int .i64 0, .int .i64 100, .int .i64 (-10), .int .i64 20, .slice (some ⟨g1, 0, none⟩) 2 2, .slice (some ⟨g2, 0, none⟩) 1 1, .slice aL 4 cL, .int .i64 3, .int .i64 0, .int .i64 100, .int .i64 (-10), .int .i64 20, .slice (some ⟨g1, 0, none⟩) 2 2, .slice (some ⟨g2, 0, none⟩) 1 1, .slice aL 4 cL] 27 (0, 0)) := (blk_put (blk_put kq 35 (.int .i64 (-1001))) 36 (.int .i64 0))
  obtain ⟨W14, hW14⟩ : ∃ z, ((x12).setCell ⟨pkq, 35, none⟩ (.int .i64 (-1001))).setCell ⟨pkq, 36, none⟩ (.int .i64 0) = z := ⟨_, rfl⟩
  rw [hW14] at jkb jkq U1 VV
  clear V
  have V := VV
  clear VV
  clear kb kq U
  have kb := jkb
  have kq := jkq
  have U := U1
  clear jkb jkq U1
  go_upto_region 7 with (fail)
  clear hW14 zf i0
  go_wp2_with fail
  refine (B_To_any (-2001) 0 _).mono ?_
  rintro e x15 ⟨rfl, u16⟩
  replace U := U.trans u16
  replace kb := u16.blk kb
  replace kq := u16.blk kq
  replace V := V.trans u16
  clear u16 
  go_wp2_with fail
  refine (B_To_any 0 0 _).mono ?_
  rintro e x17 ⟨rfl, u18⟩
  replace U := U.trans u18
  replace kb := u18.blk kb
  replace kq := u18.blk kq
  replace V := V.trans u18
  clear u18 
  have dkbk5 := blk_lt kb
  have dkqk5 := blk_lt kq
  have gk5 := U.size
  have k5 := blk_new x17 (.cells #[.int .i64 (-2001), .int .i64 0, .int .i64 0, .int .i64 0] 23) _ rfl
  replace kb := blk_keep (.cells #[.int .i64 (-2001), .int .i64 0, .int .i64 0, .int .i64 0] 23) kb
  replace kq := blk_keep (.cells #[.int .i64 (-2001), .int .i64 0, .int .i64 0, .int .i64 0] 23) kq
  replace U := U.alloc (.cells #[.int .i64 (-2001), .int .i64 0, .int .i64 0, .int .i64 0] 23)
  replace V := V.alloc (.cells #[.int .i64 (-2001), .int .i64 0, .int .i64 0, .int .i64 0] 23)
  obtain ⟨pk5, hpk5⟩ : ∃ z, x17.heap.size = z := ⟨_, rfl⟩
  obtain ⟨W19, hW19⟩ : ∃ z, x17.alloc (.cells #[.int .i64 (-2001), .int .i64 0, .int .i64 0, .int .i64 0] 23) = z := ⟨_, rfl⟩
  rw [hpk5] at k5 dkbk5 dkqk5 gk5
  rw [hW19] at k5 U kb kq V
  skip
  have zf := frozB kq
  have i0 := kq
  have U1 := (U.set (p := ⟨pkq, 45, none⟩) (show w0.heap.size ≤ pkq by omega) (.slice (some ⟨pk5, 0, none⟩) 2 2))
  have VV := (V.set (p := ⟨pkq, 45, none⟩) (show x1.heap.size ≤ pkq by omega) (.slice (some ⟨pk5, 0, none⟩) 2 2))
  have jkb := kb
  rw [← blk_set (W19) ⟨pkq, 45, none⟩ (.slice (some ⟨pk5, 0, none⟩) 2 2) (pkb) (by show pkb ≠ pkq; omega)] at jkb
  have jk5 := k5
  rw [← blk_set (W19) ⟨pkq, 45, none⟩ (.slice (some ⟨pk5, 0, none⟩) 2 2) (pk5) (by show pk5 ≠ pkq; omega)] at jk5
  have jkq : mblk ((W19).setCell ⟨pkq, 45, none⟩ (.slice (some ⟨pk5, 0, none⟩) 2 2)) pkq = some (.cells #[.int .i64 0, .int .i64 0, .int .i64 0, .int .i64 0, .int .i64 0, .slice none 0 0, .slice none 0 0, .slice none 0 0, .int .i64 9, .int .i64 0, .int .i64 100, .int .i64 (-10), .int .i64 20, .slice (some ⟨g1, 0, none⟩) 2 2, .slice (some ⟨g2, 0, none⟩) 1 1, .slice aL 4 cL, .int .i64 3, .int .i64 1, .int .i64 0, .int .i64 (-10), .int .i64 20, .slice (some ⟨g1, 0, none⟩) 2 2, .slice (some ⟨g2, 0, none⟩) 1 1, .slice aL 4 cL, .int .i64 3, .int .i64 0, .int .i64 20001, .int .i64 (-10), .int .i64 20, .slice (some ⟨g1, 0, none⟩) 2 2, .slice (some ⟨g2, 0, none⟩) 1 1, .slice aL 4 cL, .int .i64 3, .int .i64 0, .int .i64 100, .int .i64 (-1001), .int .i64 0, .slice (some ⟨g1, 0, none⟩) 2 2, .slice (some ⟨g2, 0, none⟩) 1 1, .slice aL 4 cL, .int .i64 3, .int .i64 0, .int .i64 100, .int .i64 (-10), .int .i64 20, .slice (some ⟨pk5, 0, none⟩) 2 2, .slice (some ⟨g2, 0, none⟩) 1 1, .slice aL 4 cL, .int .i64 3, .int .i64 0, .int .i64 100, .int .i64 (-10), .int .i64 20, .slice (some ⟨g1, 0, none⟩) 2 2, .slice (some ⟨g2, 0, none⟩) 1 1, .slice aL 4 cL, .int .i64 3, .int .i64 0, .int .i64 100, .int .i64 (-10), .int .i64 20, .slice (some ⟨g1, 0, none⟩) 2 2, .slice (some ⟨g2, 0, none⟩) 1 1, .slice aL 4 cL, .int .i64 3, .int .i64 0, .int .i64 100, .int .i64 (-10), .int .i64 20, .slice (some ⟨g1, 0, none⟩) 2 2, .slice (some ⟨g2, 0, none⟩) 1 1, .slice aL 4 cL, .int .i64 3, .int .i64 0, .int .i64 100, .int .i64 (-10), .int .i64 20, .slice (some ⟨g1, 0, none⟩) 2 2, .slice (some ⟨g2, 0, none⟩) 1 1, .slice aL 4 cL, .int .i64 3, .int .i64 0, .int .i64 100, .int .i64 (-10), .int .i64 20, .slice (some ⟨g1, 0, none⟩) 2 2, .slice (some ⟨g2, 0, none⟩) 1 1, .slice aL 4 cL, .int .i64 3, .int .i64 0, .int .i64 100, .int .i64 (-10), .int .i64 20, .slice (some ⟨g1, 0, none⟩) 2 2, .slice (some ⟨g2, 0, none⟩) 1 1, .slice aL 4 cL] 27 (0, 0)) := (blk_put kq 45 (.slice (some ⟨pk5, 0, none⟩) 2 2))
  obtain ⟨W20, hW20⟩ : ∃ z, (W19).setCell ⟨pkq, 45, none⟩ (.slice (some ⟨pk5, 0, none⟩) 2 2) = z := ⟨_, rfl⟩
  rw [hW20] at jkb jk5 jkq U1 VV
  clear V
  have V := VV
  clear VV
  clear kb kq k5 U
  have kb := jkb
  have kq := jkq
  have k5 := jk5
  have U := U1
  clear jkb jk5 jkq U1
  go_upto_region 8 with (fail)
  clear hW20 zf i0
  clear hpk5 hW19
  go_wp2_with fail
  refine (B_To_any (-1) 0 _).mono ?_
  rintro e x21 ⟨rfl, u22⟩
  replace U := U.trans u22
  replace kb := u22.blk kb
  replace kq := u22.blk kq
  replace k5 := u22.blk k5
  replace V := V.trans u22
  clear u22 
  have dkbk6 := blk_lt kb
  have dkqk6 := blk_lt kq
  have dk5k6 := blk_lt k5
  have gk6 := U.size
  have k6 := blk_new x21 (.cells #[.int .i64 (-1), .int .i64 0] 23) _ rfl
  replace kb := blk_keep (.cells #[.int .i64 (-1), .int .i64 0] 23) kb
  replace kq := blk_keep (.cells #[.int .i64 (-1), .int .i64 0] 23) kq
  replace k5 := blk_keep (.cells #[.int .i64 (-1), .int .i64 0] 23) k5
  replace U := U.alloc (.cells #[.int .i64 (-1), .int .i64 0] 23)
  replace V := V.alloc (.cells #[.int .i64 (-1), .int .i64 0] 23)
  obtain ⟨pk6, hpk6⟩ : ∃ z, x21.heap.size = z := ⟨_, rfl⟩
  obtain ⟨W23, hW23⟩ : ∃ z, x21.alloc (.cells #[.int .i64 (-1), .int .i64 0] 23) = z := ⟨_, rfl⟩
  rw [hpk6] at k6 dkbk6 dkqk6 dk5k6 gk6
  rw [hW23] at k6 U kb kq k5 V
  skip
  have zf := frozB kq
  have i0 := kq
  have U1 := (U.set (p := ⟨pkq, 54, none⟩) (show w0.heap.size ≤ pkq by omega) (.slice (some ⟨pk6, 0, none⟩) 1 1))
  have VV := (V.set (p := ⟨pkq, 54, none⟩) (show x1.heap.size ≤ pkq by omega) (.slice (some ⟨pk6, 0, none⟩) 1 1))
  have jkb := kb
  rw [← blk_set (W23) ⟨pkq, 54, none⟩ (.slice (some ⟨pk6, 0, none⟩) 1 1) (pkb) (by show pkb ≠ pkq; omega)] at jkb
  have jk5 := k5
  rw [← blk_set (W23) ⟨pkq, 54, none⟩ (.slice (some ⟨pk6, 0, none⟩) 1 1) (pk5) (by show pk5 ≠ pkq; omega)] at jk5
  have jk6 := k6
  rw [← blk_set (W23) ⟨pkq, 54, none⟩ (.slice (some ⟨pk6, 0, none⟩) 1 1) (pk6) (by show pk6 ≠ pkq; omega)] at jk6
  have jkq : mblk ((W23).setCell ⟨pkq, 54, none⟩ (.slice (some ⟨pk6, 0, none⟩) 1 1)) pkq = some (.cells #[.int .i64 0, .int .i64 0, .int .i64 0, .int .i64 0, .int .i64 0, .slice none 0 0, .slice none 0 0, .slice none 0 0, .int .i64 9, .int .i64 0, .int .i64 100, .int .i64 (-10), .int .i64 20, .slice (some ⟨g1, 0, none⟩) 2 2, .slice (some ⟨g2, 0, none⟩) 1 1, .slice aL 4 cL, .int .i64 3, .int .i64 1, .int .i64 0, .int .i64 (-10), .int .i64 20, .slice (some ⟨g1, 0, none⟩) 2 2, .slice (some ⟨g2, 0, none⟩) 1 1, .slice aL 4 cL, .int .i64 3, .int .i64 0, .int .i64 20001, .int .i64 (-10), .int .i64 20, .slice (some ⟨g1, 0, none⟩) 2 2, .slice (some ⟨g2, 0, none⟩) 1 1, .slice aL 4 cL, .int .i64 3, .int .i64 0, .int .i64 100, .int .i64 (-1001), .int .i64 0, .slice (some ⟨g1, 0, none⟩) 2 2, .slice (some ⟨g2, 0, none⟩) 1 1, .slice aL 4 cL, .int .i64 3, .int .i64 0, .int .i64 100, .int .i64 (-10), .int .i64 20, .slice (some ⟨pk5, 0, none⟩) 2 2, .slice (some ⟨g2, 0, none⟩) 1 1, .slice aL 4 cL, .int .i64 3, .int .i64 0, .int .i64 100, .int .i64 (-10), .int .i64 20, .slice (some ⟨g1, 0, none⟩) 2 2, .slice (some ⟨pk6, 0, none⟩) 1 1, .slice aL 4 cL, .int .i64 3, .int .i64 0, .int .i64 100, .int .i64 (-10), .int .i64 20, .slice (some ⟨g1, 0, none⟩) 2 2, .slice (some ⟨g2, 0, none⟩) 1 1, .slice aL 4 cL, .int .i64 3, .int .i64 0, .int .i64 100, .int .i64 (-10), .int .i64 20, .slice (some ⟨g1, 0, none⟩) 2 2, .slice (some ⟨g2, 0, none⟩) 1 1, .slice aL 4 cL, .int .i64 3, .int .i64 0, .int .i64 100, .int .i64 (-10), .int .i64 20, .slice (some ⟨g1, 0, none⟩) 2 2, .slice (some ⟨g2, 0, none⟩) 1 1, .slice aL 4 cL, .int .i64 3, .int .i64 0, .int .i64 100, .int .i64 (-10), .int .i64 20, .slice (some ⟨g1, 0, none⟩) 2 2, .slice (some ⟨g2, 0, none⟩) 1 1, .slice aL 4 cL, .int .i64 3, .int .i64 0, .int .i64 100, .int .i64 (-10), .int .i64 20, .slice (some ⟨g1, 0, none⟩) 2 2, .slice (some ⟨g2, 0, none⟩) 1 1, .slice aL 4 cL] 27 (0, 0)) := (blk_put kq 54 (.slice (some ⟨pk6, 0, none⟩) 1 1))
  obtain ⟨W24, hW24⟩ : ∃ z, (W23).setCell ⟨pkq, 54, none⟩ (.slice (some ⟨pk6, 0, none⟩) 1 1) = z := ⟨_, rfl⟩
  rw [hW24] at jkb jk5 jk6 jkq U1 VV
  clear V
  have V := VV
  clear VV
  clear kb kq k5 k6 U
  have kb := jkb
  have kq := jkq
  have k5 := jk5
  have k6 := jk6
  have U := U1
  clear jkb jk5 jk6 jkq U1
  go_upto_region 9 with (fail)
  clear hW24 zf i0
  clear hpk6 hW23
  have zf := frozB kq
  have i0 := kq
  have U1 := (U.set (p := ⟨pkq, 62, none⟩) (show w0.heap.size ≤ pkq by omega) (.slice none 0 0))
  have VV := (V.set (p := ⟨pkq, 62, none⟩) (show x1.heap.size ≤ pkq by omega) (.slice none 0 0))
  have jkb := kb
  rw [← blk_set (W24) ⟨pkq, 62, none⟩ (.slice none 0 0) (pkb) (by show pkb ≠ pkq; omega)] at jkb
  have jk5 := k5
  rw [← blk_set (W24) ⟨pkq, 62, none⟩ (.slice none 0 0) (pk5) (by show pk5 ≠ pkq; omega)] at jk5
  have jk6 := k6
  rw [← blk_set (W24) ⟨pkq, 62, none⟩ (.slice none 0 0) (pk6) (by show pk6 ≠ pkq; omega)] at jk6
  have jkq : mblk ((W24).setCell ⟨pkq, 62, none⟩ (.slice none 0 0)) pkq = some (.cells #[.int .i64 0, .int .i64 0, .int .i64 0, .int .i64 0, .int .i64 0, .slice none 0 0, .slice none 0 0, .slice none 0 0, .int .i64 9, .int .i64 0, .int .i64 100, .int .i64 (-10), .int .i64 20, .slice (some ⟨g1, 0, none⟩) 2 2, .slice (some ⟨g2, 0, none⟩) 1 1, .slice aL 4 cL, .int .i64 3, .int .i64 1, .int .i64 0, .int .i64 (-10), .int .i64 20, .slice (some ⟨g1, 0, none⟩) 2 2, .slice (some ⟨g2, 0, none⟩) 1 1, .slice aL 4 cL, .int .i64 3, .int .i64 0, .int .i64 20001, .int .i64 (-10), .int .i64 20, .slice (some ⟨g1, 0, none⟩) 2 2, .slice (some ⟨g2, 0, none⟩) 1 1, .slice aL 4 cL, .int .i64 3, .int .i64 0, .int .i64 100, .int .i64 (-1001), .int .i64 0, .slice (some ⟨g1, 0, none⟩) 2 2, .slice (some ⟨g2, 0, none⟩) 1 1, .slice aL 4 cL, .int .i64 3, .int .i64 0, .int .i64 100, .int .i64 (-10), .int .i64 20, .slice (some ⟨pk5, 0, none⟩) 2 2, .slice (some ⟨g2, 0, none⟩) 1 1, .slice aL 4 cL, .int .i64 3, .int .i64 0, .int .i64 100, .int .i64 (-10), .int .i64 20, .slice (some ⟨g1, 0, none⟩) 2 2, .slice (some ⟨pk6, 0, none⟩) 1 1, .slice aL 4 cL, .int .i64 3, .int .i64 0, .int .i64 100, .int .i64 (-10), .int .i64 20, .slice (some ⟨g1, 0, none⟩) 2 2, .slice none 0 0, .slice aL 4 cL, .int .i64 3, .int .i64 0, .int .i64 100, .int .i64 (-10), .int .i64 20, .slice (some ⟨g1, 0, none⟩) 2 2, .slice (some ⟨g2, 0, none⟩) 1 1, .slice aL 4 cL, .int .i64 3, .int .i64 0, .int .i64 100, .int .i64 (-10), .int .i64 20, .slice (some ⟨g1, 0, none⟩) 2 2, .slice (some ⟨g2, 0, none⟩) 1 1, .slice aL 4 cL, .int .i64 3, .int .i64 0, .int .i64 100, .int .i64 (-10), .int .i64 20, .slice (some ⟨g1, 0, none⟩) 2 2, .slice (some ⟨g2, 0, none⟩) 1 1, .slice aL 4 cL, .int .i64 3, .int .i64 0, .int .i64 100, .int .i64 (-10), .int .i64 20, .slice (some ⟨g1, 0, none⟩) 2 2, .slice (some ⟨g2, 0, none⟩) 1 1, .slice aL 4 cL] 27 (0, 0)) := (blk_put kq 62 (.slice none 0 0))
  obtain ⟨W25, hW25⟩ : ∃ z, (W24).setCell ⟨pkq, 62, none⟩ (.slice none 0 0) = z := ⟨_, rfl⟩
  rw [hW25] at jkb jk5 jk6 jkq U1 VV
  clear V
  have V := VV
  clear VV
  clear kb kq k5 k6 U
  have kb := jkb
  have kq := jkq
  have k5 := jk5
  have k6 := jk6
  have U := U1
  clear jkb jk5 jk6 jkq U1
  go_upto_region 10 with (fail)
  clear hW25 zf i0
  have hmk := kn_make
  have dkbk8 := blk_lt kb
  have dkqk8 := blk_lt kq
  have dk5k8 := blk_lt k5
  have dk6k8 := blk_lt k6
  have gk8 := U.size
  have k8 := blk_new W25 (.cells (Array.replicate 55 (.int .i64 0)) 63) _ rfl
  replace kb := blk_keep (.cells (Array.replicate 55 (.int .i64 0)) 63) kb
  replace kq := blk_keep (.cells (Array.replicate 55 (.int .i64 0)) 63) kq
  replace k5 := blk_keep (.cells (Array.replicate 55 (.int .i64 0)) 63) k5
  replace k6 := blk_keep (.cells (Array.replicate 55 (.int .i64 0)) 63) k6
  replace U := U.alloc (.cells (Array.replicate 55 (.int .i64 0)) 63)
  replace V := V.alloc (.cells (Array.replicate 55 (.int .i64 0)) 63)
  obtain ⟨pk8, hpk8⟩ : ∃ z, W25.heap.size = z := ⟨_, rfl⟩
  obtain ⟨W26, hW26⟩ : ∃ z, W25.alloc (.cells (Array.replicate 55 (.int .i64 0)) 63) = z := ⟨_, rfl⟩
  rw [hpk8] at k8 dkbk8 dkqk8 dk5k8 dk6k8 gk8
  rw [hW26] at k8 U kb kq k5 k6 V
  skip
  have zf := frozB kq
  have i0 := kq
  have U1 := (U.set (p := ⟨pkq, 71, none⟩) (show w0.heap.size ≤ pkq by omega) (.slice (some ⟨pk8, 0, none⟩) 11 11))
  have VV := (V.set (p := ⟨pkq, 71, none⟩) (show x1.heap.size ≤ pkq by omega) (.slice (some ⟨pk8, 0, none⟩) 11 11))
  have jkb := kb
  rw [← blk_set (W26) ⟨pkq, 71, none⟩ (.slice (some ⟨pk8, 0, none⟩) 11 11) (pkb) (by show pkb ≠ pkq; omega)] at jkb
  have jk5 := k5
  rw [← blk_set (W26) ⟨pkq, 71, none⟩ (.slice (some ⟨pk8, 0, none⟩) 11 11) (pk5) (by show pk5 ≠ pkq; omega)] at jk5
  have jk6 := k6
  rw [← blk_set (W26) ⟨pkq, 71, none⟩ (.slice (some ⟨pk8, 0, none⟩) 11 11) (pk6) (by show pk6 ≠ pkq; omega)] at jk6
  have jk8 := k8
  rw [← blk_set (W26) ⟨pkq, 71, none⟩ (.slice (some ⟨pk8, 0, none⟩) 11 11) (pk8) (by show pk8 ≠ pkq; omega)] at jk8
  have jkq : mblk ((W26).setCell ⟨pkq, 71, none⟩ (.slice (some ⟨pk8, 0, none⟩) 11 11)) pkq = some (.cells #[.int .i64 0, .int .i64 0, .int .i64 0, .int .i64 0, .int .i64 0, .slice none 0 0, .slice none 0 0, .slice none 0 0, .int .i64 9, .int .i64 0, .int .i64 100, .int .i64 (-10), .int .i64 20, .slice (some ⟨g1, 0, none⟩) 2 2, .slice (some ⟨g2, 0, none⟩) 1 1, .slice aL 4 cL, .int .i64 3, .int .i64 1, .int .i64 0, .int .i64 (-10), .int .i64 20, .slice (some ⟨g1, 0, none⟩) 2 2, .slice (some ⟨g2, 0, none⟩) 1 1, .slice aL 4 cL, .int .i64 3, .int .i64 0, .int .i64 20001, .int .i64 (-10), .int .i64 20, .slice (some ⟨g1, 0, none⟩) 2 2, .slice (some ⟨g2, 0, none⟩) 1 1, .slice aL 4 cL, .int .i64 3, .int .i64 0, .int .i64 100, .int .i64 (-1001), .int .i64 0, .slice (some ⟨g1, 0, none⟩) 2 2, .slice (some ⟨g2, 0, none⟩) 1 1, .slice aL 4 cL, .int .i64 3, .int .i64 0, .int .i64 100, .int .i64 (-10), .int .i64 20, .slice (some ⟨pk5, 0, none⟩) 2 2, .slice (some ⟨g2, 0, none⟩) 1 1, .slice aL 4 cL, .int .i64 3, .int .i64 0, .int .i64 100, .int .i64 (-10), .int .i64 20, .slice (some ⟨g1, 0, none⟩) 2 2, .slice (some ⟨pk6, 0, none⟩) 1 1, .slice aL 4 cL, .int .i64 3, .int .i64 0, .int .i64 100, .int .i64 (-10), .int .i64 20, .slice (some ⟨g1, 0, none⟩) 2 2, .slice none 0 0, .slice aL 4 cL, .int .i64 3, .int .i64 0, .int .i64 100, .int .i64 (-10), .int .i64 20, .slice (some ⟨g1, 0, none⟩) 2 2, .slice (some ⟨g2, 0, none⟩) 1 1, .slice (some ⟨pk8, 0, none⟩) 11 11, .int .i64 3, .int .i64 0, .int .i64 100, .int .i64 (-10), .int .i64 20, .slice (some ⟨g1, 0, none⟩) 2 2, .slice (some ⟨g2, 0, none⟩) 1 1, .slice aL 4 cL, .int .i64 3, .int .i64 0, .int .i64 100, .int .i64 (-10), .int .i64 20, .slice (some ⟨g1, 0, none⟩) 2 2, .slice (some ⟨g2, 0, none⟩) 1 1, .slice aL 4 cL, .int .i64 3, .int .i64 0, .int .i64 100, .int .i64 (-10), .int .i64 20, .slice (some ⟨g1, 0, none⟩) 2 2, .slice (some ⟨g2, 0, none⟩) 1 1, .slice aL 4 cL] 27 (0, 0)) := (blk_put kq 71 (.slice (some ⟨pk8, 0, none⟩) 11 11))
  obtain ⟨W27, hW27⟩ : ∃ z, (W26).setCell ⟨pkq, 71, none⟩ (.slice (some ⟨pk8, 0, none⟩) 11 11) = z := ⟨_, rfl⟩
  rw [hW27] at jkb jk5 jk6 jk8 jkq U1 VV
  clear V
  have V := VV
  clear VV
  clear kb kq k5 k6 k8 U
  have kb := jkb
  have kq := jkq
  have k5 := jk5
  have k6 := jk6
  have k8 := jk8
  have U := U1
  clear jkb jk5 jk6 jk8 jkq U1
  go_upto_region 11 with (fail)
  clear hW27 zf i0
  clear hpk8 hW26 hmk
  go_wp2_with fail
  refine (l_look_any 3 0 0 0 0 _).mono ?_
  rintro e x28 ⟨rfl, u29⟩
  replace U := U.trans u29
  replace kb := u29.blk kb
  replace kq := u29.blk kq
  replace k5 := u29.blk k5
  replace k6 := u29.blk k6
  replace k8 := u29.blk k8
  replace V := V.trans u29
  clear u29 
  have dkbk9 := blk_lt kb
  have dkqk9 := blk_lt kq
  have dk5k9 := blk_lt k5
  have dk6k9 := blk_lt k6
  have dk8k9 := blk_lt k8
  have gk9 := U.size
  have k9 := blk_new x28 (.cells (LkC 3 0 0 0 0) 63) _ rfl
  replace kb := blk_keep (.cells (LkC 3 0 0 0 0) 63) kb
  replace kq := blk_keep (.cells (LkC 3 0 0 0 0) 63) kq
  replace k5 := blk_keep (.cells (LkC 3 0 0 0 0) 63) k5
  replace k6 := blk_keep (.cells (LkC 3 0 0 0 0) 63) k6
  replace k8 := blk_keep (.cells (LkC 3 0 0 0 0) 63) k8
  replace U := U.alloc (.cells (LkC 3 0 0 0 0) 63)
  replace V := V.alloc (.cells (LkC 3 0 0 0 0) 63)
  obtain ⟨pk9, hpk9⟩ : ∃ z, x28.heap.size = z := ⟨_, rfl⟩
  obtain ⟨W30, hW30⟩ : ∃ z, x28.alloc (.cells (LkC 3 0 0 0 0) 63) = z := ⟨_, rfl⟩
  rw [hpk9] at k9 dkbk9 dkqk9 dk5k9 dk6k9 dk8k9 gk9
  rw [hW30] at k9 U kb kq k5 k6 k8 V
  skip
  have zf := frozB kq
  have i0 := kq
  have U1 := (U.set (p := ⟨pkq, 79, none⟩) (show w0.heap.size ≤ pkq by omega) (.slice (some ⟨pk9, 0, none⟩) 1 1))
  have VV := (V.set (p := ⟨pkq, 79, none⟩) (show x1.heap.size ≤ pkq by omega) (.slice (some ⟨pk9, 0, none⟩) 1 1))
  have jkb := kb
  rw [← blk_set (W30) ⟨pkq, 79, none⟩ (.slice (some ⟨pk9, 0, none⟩) 1 1) (pkb) (by show pkb ≠ pkq; omega)] at jkb
  have jk5 := k5
  rw [← blk_set (W30) ⟨pkq, 79, none⟩ (.slice (some ⟨pk9, 0, none⟩) 1 1) (pk5) (by show pk5 ≠ pkq; omega)] at jk5
  have jk6 := k6
  rw [← blk_set (W30) ⟨pkq, 79, none⟩ (.slice (some ⟨pk9, 0, none⟩) 1 1) (pk6) (by show pk6 ≠ pkq; omega)] at jk6
  have jk8 := k8
  rw [← blk_set (W30) ⟨pkq, 79, none⟩ (.slice (some ⟨pk9, 0, none⟩) 1 1) (pk8) (by show pk8 ≠ pkq; omega)] at jk8
  have jk9 := k9
  rw [← blk_set (W30) ⟨pkq, 79, none⟩ (.slice (some ⟨pk9, 0, none⟩) 1 1) (pk9) (by show pk9 ≠ pkq; omega)] at jk9
  have jkq : mblk ((W30).setCell ⟨pkq, 79, none⟩ (.slice (some ⟨pk9, 0, none⟩) 1 1)) pkq = some (.cells #[.int .i64 0, .int .i64 0, .int .i64 0, .int .i64 0, .int .i64 0, .slice none 0 0, .slice none 0 0, .slice none 0 0, .int .i64 9, .int .i64 0, .int .i64 100, .int .i64 (-10), .int .i64 20, .slice (some ⟨g1, 0, none⟩) 2 2, .slice (some ⟨g2, 0, none⟩) 1 1, .slice aL 4 cL, .int .i64 3, .int .i64 1, .int .i64 0, .int .i64 (-10), .int .i64 20, .slice (some ⟨g1, 0, none⟩) 2 2, .slice (some ⟨g2, 0, none⟩) 1 1, .slice aL 4 cL, .int .i64 3, .int .i64 0, .int .i64 20001, .int .i64 (-10), .int .i64 20, .slice (some ⟨g1, 0, none⟩) 2 2, .slice (some ⟨g2, 0, none⟩) 1 1, .slice aL 4 cL, .int .i64 3, .int .i64 0, .int .i64 100, .int .i64 (-1001), .int .i64 0, .slice (some ⟨g1, 0, none⟩) 2 2, .slice (some ⟨g2, 0, none⟩) 1 1, .slice aL 4 cL, .int .i64 3, .int .i64 0, .int .i64 100, .int .i64 (-10), .int .i64 20, .slice (some ⟨pk5, 0, none⟩) 2 2, .slice (some ⟨g2, 0, none⟩) 1 1, .slice aL 4 cL, .int .i64 3, .int .i64 0, .int .i64 100, .int .i64 (-10), .int .i64 20, .slice (some ⟨g1, 0, none⟩) 2 2, .slice (some ⟨pk6, 0, none⟩) 1 1, .slice aL 4 cL, .int .i64 3, .int .i64 0, .int .i64 100, .int .i64 (-10), .int .i64 20, .slice (some ⟨g1, 0, none⟩) 2 2, .slice none 0 0, .slice aL 4 cL, .int .i64 3, .int .i64 0, .int .i64 100, .int .i64 (-10), .int .i64 20, .slice (some ⟨g1, 0, none⟩) 2 2, .slice (some ⟨g2, 0, none⟩) 1 1, .slice (some ⟨pk8, 0, none⟩) 11 11, .int .i64 3, .int .i64 0, .int .i64 100, .int .i64 (-10), .int .i64 20, .slice (some ⟨g1, 0, none⟩) 2 2, .slice (some ⟨g2, 0, none⟩) 1 1, .slice (some ⟨pk9, 0, none⟩) 1 1, .int .i64 3, .int .i64 0, .int .i64 100, .int .i64 (-10), .int .i64 20, .slice (some ⟨g1, 0, none⟩) 2 2, .slice (some ⟨g2, 0, none⟩) 1 1, .slice aL 4 cL, .int .i64 3, .int .i64 0, .int .i64 100, .int .i64 (-10), .int .i64 20, .slice (some ⟨g1, 0, none⟩) 2 2, .slice (some ⟨g2, 0, none⟩) 1 1, .slice aL 4 cL] 27 (0, 0)) := (blk_put kq 79 (.slice (some ⟨pk9, 0, none⟩) 1 1))
  obtain ⟨W31, hW31⟩ : ∃ z, (W30).setCell ⟨pkq, 79, none⟩ (.slice (some ⟨pk9, 0, none⟩) 1 1) = z := ⟨_, rfl⟩
  rw [hW31] at jkb jk5 jk6 jk8 jk9 jkq U1 VV
  clear V
  have V := VV
  clear VV
  clear kb kq k5 k6 k8 k9 U
  have kb := jkb
  have kq := jkq
  have k5 := jk5
  have k6 := jk6
  have k8 := jk8
  have k9 := jk9
  have U := U1
  clear jkb jk5 jk6 jk8 jk9 jkq U1
  go_upto_region 12 with (fail)
  clear hW31 zf i0
  clear hpk9 hW30
  go_wp2_with fail
  refine (l_look_any 0 2 0 0 0 _).mono ?_
  rintro e x32 ⟨rfl, u33⟩
  replace U := U.trans u33
  replace kb := u33.blk kb
  replace kq := u33.blk kq
  replace k5 := u33.blk k5
  replace k6 := u33.blk k6
  replace k8 := u33.blk k8
  replace k9 := u33.blk k9
  replace V := V.trans u33
  clear u33 
  have dkbk10 := blk_lt kb
  have dkqk10 := blk_lt kq
  have dk5k10 := blk_lt k5
  have dk6k10 := blk_lt k6
  have dk8k10 := blk_lt k8
  have dk9k10 := blk_lt k9
  have gk10 := U.size
  have k10 := blk_new x32 (.cells (LkC 0 2 0 0 0) 63) _ rfl
  replace kb := blk_keep (.cells (LkC 0 2 0 0 0) 63) kb
  replace kq := blk_keep (.cells (LkC 0 2 0 0 0) 63) kq
  replace k5 := blk_keep (.cells (LkC 0 2 0 0 0) 63) k5
  replace k6 := blk_keep (.cells (LkC 0 2 0 0 0) 63) k6
  replace k8 := blk_keep (.cells (LkC 0 2 0 0 0) 63) k8
  replace k9 := blk_keep (.cells (LkC 0 2 0 0 0) 63) k9
  replace U := U.alloc (.cells (LkC 0 2 0 0 0) 63)
  replace V := V.alloc (.cells (LkC 0 2 0 0 0) 63)
  obtain ⟨pk10, hpk10⟩ : ∃ z, x32.heap.size = z := ⟨_, rfl⟩
  obtain ⟨W34, hW34⟩ : ∃ z, x32.alloc (.cells (LkC 0 2 0 0 0) 63) = z := ⟨_, rfl⟩
  rw [hpk10] at k10 dkbk10 dkqk10 dk5k10 dk6k10 dk8k10 dk9k10 gk10
  rw [hW34] at k10 U kb kq k5 k6 k8 k9 V
  skip
  have zf := frozB kq
  have i0 := kq
  have U1 := (U.set (p := ⟨pkq, 87, none⟩) (show w0.heap.size ≤ pkq by omega) (.slice (some ⟨pk10, 0, none⟩) 1 1))
  have VV := (V.set (p := ⟨pkq, 87, none⟩) (show x1.heap.size ≤ pkq by omega) (.slice (some ⟨pk10, 0, none⟩) 1 1))
  have jkb := kb
  rw [← blk_set (W34) ⟨pkq, 87, none⟩ (.slice (some ⟨pk10, 0, none⟩) 1 1) (pkb) (by show pkb ≠ pkq; omega)] at jkb
  have jk5 := k5
  rw [← blk_set (W34) ⟨pkq, 87, none⟩ (.slice (some ⟨pk10, 0, none⟩) 1 1) (pk5) (by show pk5 ≠ pkq; omega)] at jk5
  have jk6 := k6
  rw [← blk_set (W34) ⟨pkq, 87, none⟩ (.slice (some ⟨pk10, 0, none⟩) 1 1) (pk6) (by show pk6 ≠ pkq; omega)] at jk6
  have jk8 := k8
  rw [← blk_set (W34) ⟨pkq, 87, none⟩ (.slice (some ⟨pk10, 0, none⟩) 1 1) (pk8) (by show pk8 ≠ pkq; omega)] at jk8
  have jk9 := k9
  rw [← blk_set (W34) ⟨pkq, 87, none⟩ (.slice (some ⟨pk10, 0, none⟩) 1 1) (pk9) (by show pk9 ≠ pkq; omega)] at jk9
  have jk10 := k10
  rw [← blk_set (W34) ⟨pkq, 87, none⟩ (.slice (some ⟨pk10, 0, none⟩) 1 1) (pk10) (by show pk10 ≠ pkq; omega)] at jk10
  have jkq : mblk ((W34).setCell ⟨pkq, 87, none⟩ (.slice (some ⟨pk10, 0, none⟩) 1 1)) pkq = some (.cells #[.int .i64 0, .int .i64 0, .int .i64 0, .int .i64 0, .int .i64 0, .slice none 0 0, .slice none 0 0, .slice none 0 0, .int .i64 9, .int .i64 0, .int .i64 100, .int .i64 (-10), .int .i64 20, .slice (some ⟨g1, 0, none⟩) 2 2, .slice (some ⟨g2, 0, none⟩) 1 1, .slice aL 4 cL, .int .i64 3, .int .i64 1, .int .i64 0, .int .i64 (-10), .int .i64 20, .slice (some ⟨g1, 0, none⟩) 2 2, .slice (some ⟨g2, 0, none⟩) 1 1, .slice aL 4 cL, .int .i64 3, .int .i64 0, .int .i64 20001, .int .i64 (-10), .int .i64 20, .slice (some ⟨g1, 0, none⟩) 2 2, .slice (some ⟨g2, 0, none⟩) 1 1, .slice aL 4 cL, .int .i64 3, .int .i64 0, .int .i64 100, .int .i64 (-1001), .int .i64 0, .slice (some ⟨g1, 0, none⟩) 2 2, .slice (some ⟨g2, 0, none⟩) 1 1, .slice aL 4 cL, .int .i64 3, .int .i64 0, .int .i64 100, .int .i64 (-10), .int .i64 20, .slice (some ⟨pk5, 0, none⟩) 2 2, .slice (some ⟨g2, 0, none⟩) 1 1, .slice aL 4 cL, .int .i64 3, .int .i64 0, .int .i64 100, .int .i64 (-10), .int .i64 20, .slice (some ⟨g1, 0, none⟩) 2 2, .slice (some ⟨pk6, 0, none⟩) 1 1, .slice aL 4 cL, .int .i64 3, .int .i64 0, .int .i64 100, .int .i64 (-10), .int .i64 20, .slice (some ⟨g1, 0, none⟩) 2 2, .slice none 0 0, .slice aL 4 cL, .int .i64 3, .int .i64 0, .int .i64 100, .int .i64 (-10), .int .i64 20, .slice (some ⟨g1, 0, none⟩) 2 2, .slice (some ⟨g2, 0, none⟩) 1 1, .slice (some ⟨pk8, 0, none⟩) 11 11, .int .i64 3, .int .i64 0, .int .i64 100, .int .i64 (-10), .int .i64 20, .slice (some ⟨g1, 0, none⟩) 2 2, .slice (some ⟨g2, 0, none⟩) 1 1, .slice (some ⟨pk9, 0, none⟩) 1 1, .int .i64 3, .int .i64 0, .int .i64 100, .int .i64 (-10), .int .i64 20, .slice (some ⟨g1, 0, none⟩) 2 2, .slice (some ⟨g2, 0, none⟩) 1 1, .slice (some ⟨pk10, 0, none⟩) 1 1, .int .i64 3, .int .i64 0, .int .i64 100, .int .i64 (-10), .int .i64 20, .slice (some ⟨g1, 0, none⟩) 2 2, .slice (some ⟨g2, 0, none⟩) 1 1, .slice aL 4 cL] 27 (0, 0)) := (blk_put kq 87 (.slice (some ⟨pk10, 0, none⟩) 1 1))
  obtain ⟨W35, hW35⟩ : ∃ z, (W34).setCell ⟨pkq, 87, none⟩ (.slice (some ⟨pk10, 0, none⟩) 1 1) = z := ⟨_, rfl⟩
  rw [hW35] at jkb jk5 jk6 jk8 jk9 jk10 jkq U1 VV
  clear V
  have V := VV
  clear VV
  clear kb kq k5 k6 k8 k9 k10 U
  have kb := jkb
  have kq := jkq
  have k5 := jk5
  have k6 := jk6
  have k8 := jk8
  have k9 := jk9
  have k10 := jk10
  have U := U1
  clear jkb jk5 jk6 jk8 jk9 jk10 jkq U1
  go_upto_region 13 with (fail)
  clear hW35 zf i0
  clear hpk10 hW34
  rename_i K_ hK_
  replace hK_ := Lib.hid hK_
  go_wp2_with fail
  refine (l_look_any 0 0 0 30001 0 _).mono ?_
  rintro e x36 ⟨rfl, u37⟩
  replace U := U.trans u37
  replace kb := u37.blk kb
  replace kq := u37.blk kq
  replace k5 := u37.blk k5
  replace k6 := u37.blk k6
  replace k8 := u37.blk k8
  replace k9 := u37.blk k9
  replace k10 := u37.blk k10
  replace V := V.trans u37
  clear u37 
  have dkbk11 := blk_lt kb
  have dkqk11 := blk_lt kq
  have dk5k11 := blk_lt k5
  have dk6k11 := blk_lt k6
  have dk8k11 := blk_lt k8
  have dk9k11 := blk_lt k9
  have dk10k11 := blk_lt k10
  have gk11 := U.size
  have k11 := blk_new x36 (.cells (LkC 0 0 0 30001 0) 63) _ rfl
  replace kb := blk_keep (.cells (LkC 0 0 0 30001 0) 63) kb
  replace kq := blk_keep (.cells (LkC 0 0 0 30001 0) 63) kq
  replace k5 := blk_keep (.cells (LkC 0 0 0 30001 0) 63) k5
  replace k6 := blk_keep (.cells (LkC 0 0 0 30001 0) 63) k6
  replace k8 := blk_keep (.cells (LkC 0 0 0 30001 0) 63) k8
  replace k9 := blk_keep (.cells (LkC 0 0 0 30001 0) 63) k9
  replace k10 := blk_keep (.cells (LkC 0 0 0 30001 0) 63) k10
  replace U := U.alloc (.cells (LkC 0 0 0 30001 0) 63)
  replace V := V.alloc (.cells (LkC 0 0 0 30001 0) 63)
  obtain ⟨pk11, hpk11⟩ : ∃ z, x36.heap.size = z := ⟨_, rfl⟩
  obtain ⟨W38, hW38⟩ : ∃ z, x36.alloc (.cells (LkC 0 0 0 30001 0) 63) = z := ⟨_, rfl⟩
  rw [hpk11] at k11 dkbk11 dkqk11 dk5k11 dk6k11 dk8k11 dk9k11 dk10k11 gk11
  rw [hW38] at k11 U kb kq k5 k6 k8 k9 k10 V
  skip
  have zf := frozB kq
  have i0 := kq
  have U1 := (U.set (p := ⟨pkq, 95, none⟩) (show w0.heap.size ≤ pkq by omega) (.slice (some ⟨pk11, 0, none⟩) 1 1))
  have VV := (V.set (p := ⟨pkq, 95, none⟩) (show x1.heap.size ≤ pkq by omega) (.slice (some ⟨pk11, 0, none⟩) 1 1))
  have jkb := kb
  rw [← blk_set (W38) ⟨pkq, 95, none⟩ (.slice (some ⟨pk11, 0, none⟩) 1 1) (pkb) (by show pkb ≠ pkq; omega)] at jkb
  have jk5 := k5
  rw [← blk_set (W38) ⟨pkq, 95, none⟩ (.slice (some ⟨pk11, 0, none⟩) 1 1) (pk5) (by show pk5 ≠ pkq; omega)] at jk5
  have jk6 := k6
  rw [← blk_set (W38) ⟨pkq, 95, none⟩ (.slice (some ⟨pk11, 0, none⟩) 1 1) (pk6) (by show pk6 ≠ pkq; omega)] at jk6
  have jk8 := k8
  rw [← blk_set (W38) ⟨pkq, 95, none⟩ (.slice (some ⟨pk11, 0, none⟩) 1 1) (pk8) (by show pk8 ≠ pkq; omega)] at jk8
  have jk9 := k9
  rw [← blk_set (W38) ⟨pkq, 95, none⟩ (.slice (some ⟨pk11, 0, none⟩) 1 1) (pk9) (by show pk9 ≠ pkq; omega)] at jk9
  have jk10 := k10
  rw [← blk_set (W38) ⟨pkq, 95, none⟩ (.slice (some ⟨pk11, 0, none⟩) 1 1) (pk10) (by show pk10 ≠ pkq; omega)] at jk10
  have jk11 := k11
  rw [← blk_set (W38) ⟨pkq, 95, none⟩ (.slice (some ⟨pk11, 0, none⟩) 1 1) (pk11) (by show pk11 ≠ pkq; omega)] at jk11
  have jkq : mblk ((W38).setCell ⟨pkq, 95, none⟩ (.slice (some ⟨pk11, 0, none⟩) 1 1)) pkq = some (.cells #[.int .i64 0, .int .i64 0, .int .i64 0, .int .i64 0, .int .i64 0, .slice none 0 0, .slice none 0 0, .slice none 0 0, .int .i64 9, .int .i64 0, .int .i64 100, .int .i64 (-10), .int .i64 20, .slice (some ⟨g1, 0, none⟩) 2 2, .slice (some ⟨g2, 0, none⟩) 1 1, .slice aL 4 cL, .int .i64 3, .int .i64 1, .int .i64 0, .int .i64 (-10), .int .i64 20, .slice (some ⟨g1, 0, none⟩) 2 2, .slice (some ⟨g2, 0, none⟩) 1 1, .slice aL 4 cL, .int .i64 3, .int .i64 0, .int .i64 20001, .int .i64 (-10), .int .i64 20, .slice (some ⟨g1, 0, none⟩) 2 2, .slice (some ⟨g2, 0, none⟩) 1 1, .slice aL 4 cL, .int .i64 3, .int .i64 0, .int .i64 100, .int .i64 (-1001), .int .i64 0, .slice (some ⟨g1, 0, none⟩) 2 2, .slice (some ⟨g2, 0, none⟩) 1 1, .slice aL 4 cL, .int .i64 3, .int .i64 0, .int .i64 100, .int .i64 (-10), .int .i64 20, .slice (some ⟨pk5, 0, none⟩) 2 2, .slice (some ⟨g2, 0, none⟩) 1 1, .slice aL 4 cL, .int .i64 3, .int .i64 0, .int .i64 100, .int .i64 (-10), .int .i64 20, .slice (some ⟨g1, 0, none⟩) 2 2, .slice (some ⟨pk6, 0, none⟩) 1 1, .slice aL 4 cL, .int .i64 3, .int .i64 0, .int .i64 100, .int .i64 (-10), .int .i64 20, .slice (some ⟨g1, 0, none⟩) 2 2, .slice none 0 0, .slice aL 4 cL, .int .i64 3, .int .i64 0, .int .i64 100, .int .i64 (-10), .int .i64 20, .slice (some ⟨g1, 0, none⟩) 2 2, .slice (some ⟨g2, 0, none⟩) 1 1, .slice (some ⟨pk8, 0, none⟩) 11 11, .int .i64 3, .int .i64 0, .int .i64 100, .int .i64 (-10), .int .i64 20, .slice (some ⟨g1, 0, none⟩) 2 2, .slice (some ⟨g2, 0, none⟩) 1 1, .slice (some ⟨pk9, 0, none⟩) 1 1, .int .i64 3, .int .i64 0, .int .i64 100, .int .i64 (-10), .int .i64 20, .slice (some ⟨g1, 0, none⟩) 2 2, .slice (some ⟨g2, 0, none⟩) 1 1, .slice (some ⟨pk10, 0, none⟩) 1 1, .int .i64 3, .int .i64 0, .int .i64 100, .int .i64 (-10), .int .i64 20, .slice (some ⟨g1, 0, none⟩) 2 2, .slice (some ⟨g2, 0, none⟩) 1 1, .slice (some ⟨pk11, 0, none⟩) 1 1] 27 (0, 0)) := (blk_put kq 95 (.slice (some ⟨pk11, 0, none⟩) 1 1))
  obtain ⟨W39, hW39⟩ : ∃ z, (W38).setCell ⟨pkq, 95, none⟩ (.slice (some ⟨pk11, 0, none⟩) 1 1) = z := ⟨_, rfl⟩
  rw [hW39] at jkb jk5 jk6 jk8 jk9 jk10 jk11 jkq U1 VV
  clear V
  have V := VV
  clear VV
  clear kb kq k5 k6 k8 k9 k10 k11 U
  have kb := jkb
  have kq := jkq
  have k5 := jk5
  have k6 := jk6
  have k8 := jk8
  have k9 := jk9
  have k10 := jk10
  have k11 := jk11
  have U := U1
  clear jkb jk5 jk6 jk8 jk9 jk10 jk11 jkq U1
  go_wp2_with fail
  clear hW39 zf i0
  clear hpk11 hW38
  refine hK_.out _ _ ?_
  have I := HI.out _ V
  have J := HJ.out _ V
  have K := HK.out _ V
  exact kn_tail14 _ _ _ _ _ _ _ _ _ _ _ _ _ _ _ _ _ _ _ _ _ _ _ _ _ _ _ _ _ _ _ _ _ _ _ _ _ _ _ _ _ _ _ _ _ _ _ _ _ _ _ _ _ _ _ _ _ _ _ _ _ _ _ _ _ _ _ _ _ _ _ _ _ _ _ _ _ _ _ _ _ _ _ _ _ _ _ _ _ _ _ _ _ _ _ _ _ _ _ _ _ _ _ _ _ _ _ _ _ _ _ _ _ _ _ _ _ _ I J K kb (blk_lt kq) (kn_bad I J K kq k5 k6 k8 k9 k10 k11) U

end Go.Proofs.Ytlpkheoljbdajaa
