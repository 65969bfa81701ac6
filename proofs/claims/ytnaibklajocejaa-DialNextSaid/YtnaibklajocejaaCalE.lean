import Derived.Test.YtnaibklajocejaaCalD
/- The contracts of dial's lengths and total. -/
namespace Go.Proofs.Ytnaibklajocejaa
open Go.RowKit

/-- the first days' lengths -/
def D.lens (h m s : Int) (x : Nat → Int) (k : Nat) : List Int := (List.range k).map fun j => D.len h m s (x j)
theorem D.lens_snoc (h m s : Int) (x : Nat → Int) (k : Nat) : D.lens h m s x (k + 1) = D.lens h m s x k ++ [D.len h m s (x k)] := by
  simp [D.lens, List.range_succ]
theorem D.lens_len (h m s : Int) (x : Nat → Int) (k : Nat) : (D.lens h m s x k).length = k := by simp [D.lens]

theorem Try.infoInt : (Try.prog.info? 3).map (fun i => (i.zero, i.size, i.bytes)) = some (some (.int .i64 0), 1, 8) := by kernel_rfl

theorem grown_blk {w w' : World} {row : Option Nat} {b : Nat} {o : Obj} (hg : w.grownBy w' row) (h : mblk w b = some o) (hne : some b ≠ row) : mblk w' b = some o :=
  (hg.block b (blk_lt h) hne).trans h
theorem Up.grown {w w1 w2 : World} {row : Option Nat} (h : Up w w1) (hg : w1.grownBy w2 row) (hr : ∀ k, row = some k → w.heap.size ≤ k) : Up w w2 := Below.grown h hg h.size hr

set_option maxRecDepth 100000 in
theorem lengths_any {cs : Array Value} {h m s : Int} {n : Nat} {x : Nat → Int} (C : Cal cs h m s n x) (w : World) (h1 : 1 ≤ h) (h2 : h ≤ 24) (m1 : 1 ≤ m) (m2 : m ≤ 60) (s1 : 2 ≤ s) (s2 : s ≤ 60) (d2 : n ≤ 10) :
    Calls Try.prog 85 #[.agg cs] w fun e w' => e = .returned (.slice (some ⟨w.heap.size + 1, 0, none⟩) n n) ∧ Up w w' ∧ ∀ j, j < n → w'.cell? ⟨w.heap.size + 1, j, none⟩ = some (.int .i64 ((D.lens h m s x n).getD j 0)) := by
  have hs := Lib.hid C.size
  have q3 := C.c3
  obtain ⟨i0, hi, hz0, hz1, hz2⟩ := info_parts Try.infoInt
  go_enter Try.func85, Try.ntmps85
  go_wp2_with (refine wpList_make_own _ rfl _ _ 49 rfl (w.heap.size + 1) 3 i0 _ 1 Try.underlying49 hi hz0 hz1 .i64 .i64 _ n rfl rfl rfl (by rw [hz2]; omega) (by unfold maxLen; omega) (by simp) ?_; intro w1 hown1 hgrow1; have k1 := grown_blk hgrow1 (b := w.heap.size) (blk_new _ _ _ rfl) (by simp); have U1 : Up w w1 := ((Up.refl _).alloc _).grown hgrow1 (by simp); clear hgrow1)
  go_loopw [3, 4, 12] (fun l _ i wr => ∃ k : Nat, k ≤ n ∧ i = .int .i64 k ∧ l = .slice (some ⟨w.heap.size + 1, 0, none⟩) k n ∧ wr.ownsRow (w.heap.size + 1) 3 1 (.slice (some ⟨w.heap.size + 1, 0, none⟩) k n) k ((D.lens h m s x k).map (Value.int .i64)) ∧ mblk wr w.heap.size = some (.cells cs 87) ∧ Up w wr) (fun _ _ i _ => n - (intOf i).toNat)
  case atStart => exact ⟨0, Nat.zero_le _, rfl, rfl, by rw [World.size_alloc] at hown1; exact hown1, k1, U1⟩
  case round =>
    obtain ⟨k, hk, rfl, rfl, hown, k1, U1⟩ := hrel
    by_cases hlt : k < n
    · have HL := Lib.hid (D.lens_snoc h m s x k)
      go_wp2_with fail
      refine (length_any C k _ (by omega) h1 h2 m1 m2 s1 s2).mono ?_
      rintro e w2 ⟨rfl, u2⟩
      have k2 := u2.blk k1
      have hown2 := hown.kept (w' := w2) (row := none) ⟨u2.os, u2.tape, u2.output, u2.size, fun j hj _ => u2.block j hj⟩ (.inr (by simp [Value.ownBlock]))
      have U2 := U1.trans u2
      clear u2 k1 hown U1
      go_wp2_with (at_builtin; refine wpList_append_fits _ rfl (.tmp 15) (.tmp 19) 49 rfl (w.heap.size + 1) 3 i0 1 Try.underlying49 hi hz1 (w.heap.size + 1) k n _ rfl (hown2.alloc _) ⟨w2.heap.size, 0, none⟩ 1 1 [.int .i64 (D.len h m s (x k))] rfl rfl (cell_one_new _ _ _) (by simp [Value.oneCell']) (by omega) ?_; intro w3 hown3 hgrow3)
      have k3 := grown_blk hgrow3 (blk_keep _ k2) (by simp)
      go_wp2
      go_roundw
      case rel => exact ⟨k + 1, by omega, by go_num, rfl, by rw [HL.out, List.map_append]; exact hown3, k3, (U2.alloc _).grown hgrow3 (by rintro j ⟨⟩; omega)⟩
      case measure => simp [intOf]; omega
    · obtain rfl : k = n := by omega
      go_wp2
      go_ret
      refine ⟨rfl, U1, fun j hj => ?_⟩
      rw [hown.cellAt j (by omega), List.getElem?_map, List.getD_eq_getElem?_getD, List.getElem?_eq_getElem (by rw [D.lens_len]; omega)]
      rfl

theorem total_any {cs : Array Value} {h m s : Int} {n : Nat} {x : Nat → Int} (C : Cal cs h m s n x) (w : World) (h1 : 1 ≤ h) (h2 : h ≤ 24) (m1 : 1 ≤ m) (m2 : m ≤ 60) (s1 : 2 ≤ s) (s2 : s ≤ 60) (d2 : n ≤ 10) :
    Calls Try.prog 56 #[.agg cs] w fun e w' => e = .returned (.int .i64 (wrap64 (D.tot (D.lens h m s x n)))) ∧ Up w w' := by
  have hs := Lib.hid C.size
  go_enter Try.func56, Try.ntmps56
  go_wp2_with fail
  refine (lengths_any C _ h1 h2 m1 m2 s1 s2 d2).mono ?_
  rintro e w1 ⟨rfl, u1, hc⟩
  have HC := Lib.hid hc
  clear hc
  have K := sum_any (w.heap.size + 1 + 1) 0 (D.lens h m s x n) n w1 (by rw [D.lens_len]; omega) (fun k hk => by
    have := HC.out k (by rw [D.lens_len] at hk; exact hk)
    simp only [Nat.zero_add] at this ⊢
    simpa using this)
  rw [D.lens_len] at K
  have HK := Lib.hid K
  clear K HC
  go_wp2_with fail
  refine HK.out.mono ?_
  rintro e w2 ⟨rfl, rfl⟩
  go_wp2
  go_ret
  exact ⟨rfl, ((Up.refl _).alloc _).trans u1⟩

end Go.Proofs.Ytnaibklajocejaa
