import Derived.Test.YtckjggkikpgidaaKnw
/- The contract of scale's newKnown. -/
namespace Go.Proofs.Ytckjggkikpgidaa
open Go.RowKit

/-- what a rule lets each tick add, in each part: 0, 1 and 2 -/
def S.part (f s : Int) (p : Int) : Int := if p = 0 then s else if p = 2 then f else 0
def S.knows (f s j : Int) (a b : Int) : Int := if (b = 0 ∨ b = 1 ∨ b = 2) ∧ 1 ≤ a ∧ a ≤ 100 then S.can (S.part f s b) j a.toNat else 0
theorem S.knows_is (f s j : Int) (a b : Int) : S.knew f j 2 100 (S.knew 0 j 1 100 (S.knew s j 0 100 fun _ _ => 0)) a b = S.knows f s j a b := by
  unfold S.knew S.knows S.part
  by_cases h : 1 ≤ a ∧ a ≤ 100
  · by_cases h2 : b = 2
    · subst h2; simp [h]
    · by_cases h1 : b = 1
      · subst h1; simp [h]
      · by_cases h0 : b = 0
        · subst h0; simp [h]
        · simp [h0, h1, h2]
  · have : ¬ (1 ≤ a ∧ a ≤ ((100 : Nat) : Int)) := h
    simp [h]
/-- what is known of a rule's ticks, in memory -/
structure S.Know (w : World) (v : Value) (f s j : Int) : Prop where
  mk :: (is : ∃ m n M, v = .map (some m) ∧ S.Own w m n M ∧ S.MapIs M (S.knows f s j))
theorem S.Know.up {w w' : World} {v : Value} {f s j : Int} (h : S.Know w v f s j) (u : Up w w') : S.Know w' v f s j := by
  obtain ⟨m, n, M, rfl, ho, hM⟩ := h.is
  exact ⟨m, n, M, rfl, ho.kept (up_grown u none) (by simp), hM⟩

set_option maxRecDepth 100000 in
set_option maxHeartbeats 2000000 in
theorem newKnown_any {f s j dl dh : Int} (hr : S.ok f s j dl dh = true) (w : World) :
    Calls Try.prog 66 #[RV f s j dl dh] w fun e w' => ∃ v, e = .returned v ∧ Up w w' ∧ S.Know w' v f s j := by
  obtain ⟨⟨f1, f2⟩, ⟨s1, s2⟩, ⟨j1, j2⟩, hd⟩ := S.ok_iff.1 hr
  have hmm := @run_makeMap Try.prog
  have i0 : ∀ w, (Instr.index 127 DV (.int .i64 0)).run Try.prog w = .ok (.agg #[.int .i64 (-1), .func (.func 101) #[] #[]]) w := fun _ => by kernel_rfl
  have i1 : ∀ w, (Instr.index 127 DV (.int .i64 1)).run Try.prog w = .ok (.agg #[.int .i64 0, .func (.func 102) #[] #[]]) w := fun _ => by kernel_rfl
  have i2 : ∀ w, (Instr.index 127 DV (.int .i64 2)).run Try.prog w = .ok (.agg #[.int .i64 1, .func (.func 103) #[] #[]]) w := fun _ => by kernel_rfl
  clear hr hd
  go_enter Try.func66, Try.ntmps66
  go_wp2_with fail
  obtain ⟨W0, hW0⟩ : ∃ W0, ((w.alloc (.cells #[.int .i64 f, .int .i64 s, .int .i64 j, .int .i64 dl, .int .i64 dh] 79)).alloc (.map #[] 0)).alloc (.cells #[.map (some (w.heap.size + 1))] 86) = W0 := ⟨_, rfl⟩
  have U0 : Up w W0 := by rw [← hW0]; exact (((Up.refl w).alloc _).alloc _).alloc _
  have r0 : mblk W0 w.heap.size = some (.cells #[.int .i64 f, .int .i64 s, .int .i64 j, .int .i64 dl, .int .i64 dh] 79 (0, 0)) := by rw [← hW0]; exact blk_keep _ (blk_keep _ (blk_new _ _ _ rfl))
  have o0 : S.Own W0 (w.heap.size + 1) 0 (.map []) := by
    have := (World.ownsMap_made (w.alloc (.cells #[.int .i64 f, .int .i64 s, .int .i64 j, .int .i64 dl, .int .i64 dh] 79)) Try.prog 130 (plainElem (H := Nat) Try.prog 3)).alloc (.cells #[.map (some (w.heap.size + 1))] 86)
    rw [World.size_alloc, hW0] at this
    exact this
  have k0 : mblk W0 (w.heap.size + 1 + 1) = some (.cells #[.map (some (w.heap.size + 1))] 86 (0, 0)) := by rw [← hW0]; exact blk_new _ _ _ (by simp)
  rw [hW0]
  clear hW0
  refine (directions_any _).mono ?_
  rintro e w1 ⟨rfl, u1⟩
  have U1 := U0.trans u1
  have r1 := u1.blk r0
  have k1 := u1.blk k0
  have o1 := o0.kept (up_grown u1 none) (by simp)
  clear u1 U0 r0 k0 o0
  go_wp2_with fail
  go_loopw [9] (fun i wr => ∃ (n : Nat) (M : DataW Nat), ((i = .int .i64 0 ∧ n ≤ 0 ∧ S.MapIs M (fun _ _ => 0)) ∨ (i = .int .i64 1 ∧ n ≤ 100 ∧ S.MapIs M (S.knew s j 0 100 fun _ _ => 0)) ∨ (i = .int .i64 2 ∧ n ≤ 200 ∧ S.MapIs M (S.knew 0 j 1 100 (S.knew s j 0 100 fun _ _ => 0))) ∨ (i = .int .i64 3 ∧ n ≤ 300 ∧ S.MapIs M (S.knew f j 2 100 (S.knew 0 j 1 100 (S.knew s j 0 100 fun _ _ => 0))))) ∧
    mblk wr w.heap.size = some (.cells #[.int .i64 f, .int .i64 s, .int .i64 j, .int .i64 dl, .int .i64 dh] 79 (0, 0)) ∧ mblk wr (w.heap.size + 1 + 1) = some (.cells #[.map (some (w.heap.size + 1))] 86 (0, 0)) ∧ S.Own wr (w.heap.size + 1) n M ∧ Up w wr) (fun i _ => 3 - (intOf i).toNat)
  case atStart => exact ⟨0, .map [], .inl ⟨rfl, Nat.le_refl _, S.MapIs.empty⟩, r1, k1, o1, U1⟩
  case round =>
    clear r1 k1 o1 U1 hmm
    obtain ⟨n, M, hcase, r2, k2, hown, U2⟩ := hrel
    rcases hcase with ⟨rfl, hn, hM⟩ | ⟨rfl, hn, hM⟩ | ⟨rfl, hn, hM⟩ | ⟨rfl, hn, hM⟩
    · -- part 0
      have z1 := blk_lt r2
      have z2 := blk_lt k2
      have r3 := blk_keep (.cells #[.func (.func 88) #[] #[.pointer (some ⟨wr.heap.size + 1 + 1, 0, none⟩), .pointer (some ⟨w.heap.size, 0, none⟩), .pointer (some ⟨wr.heap.size + 1, 0, none⟩), .pointer (some ⟨w.heap.size + 1 + 1, 0, none⟩), .pointer (some ⟨wr.heap.size, 0, none⟩)]] 61) (blk_keep (.cells #[.int .i64 (-1), .func (.func 101) #[] #[]] 126) (blk_keep (.cells #[.int .i64 0] 3) r2))
      have k3 := blk_keep (.cells #[.func (.func 88) #[] #[.pointer (some ⟨wr.heap.size + 1 + 1, 0, none⟩), .pointer (some ⟨w.heap.size, 0, none⟩), .pointer (some ⟨wr.heap.size + 1, 0, none⟩), .pointer (some ⟨w.heap.size + 1 + 1, 0, none⟩), .pointer (some ⟨wr.heap.size, 0, none⟩)]] 61) (blk_keep (.cells #[.int .i64 (-1), .func (.func 101) #[] #[]] 126) (blk_keep (.cells #[.int .i64 0] 3) k2))
      have HC := Lib.hid (fun W (u : Up wr W) q1 q2 q3 q4 q5 => can_slowest (e := s) (sg := (-1)) (p := 0) (dl := dl) (dh := dh) (f := f) (s := s) (j := j) (bc := wr.heap.size + 1 + 1) (br := w.heap.size) (bd := wr.heap.size + 1) (bk := w.heap.size + 1 + 1) (bp := wr.heap.size) (m := w.heap.size + 1) j1 j2 s1 s2 ⟨by omega, by omega⟩ ⟨by omega, by omega, by omega, by omega, by omega⟩ (fun w => slowest_any f s j dl dh w) _ 100 (Nat.le_refl _) n M W (by omega) q1 q2 q3 q4 q5 (hown.kept (up_grown u none) (by simp)) hM)
      have V3 := ((Up.refl wr).alloc (.cells #[.int .i64 0] 3)).alloc (.cells #[.int .i64 (-1), .func (.func 101) #[] #[]] 126) |>.alloc (.cells #[.func (.func 88) #[] #[.pointer (some ⟨wr.heap.size + 1 + 1, 0, none⟩), .pointer (some ⟨w.heap.size, 0, none⟩), .pointer (some ⟨wr.heap.size + 1, 0, none⟩), .pointer (some ⟨w.heap.size + 1 + 1, 0, none⟩), .pointer (some ⟨wr.heap.size, 0, none⟩)]] 61)
      clear hM hown r2 k2
      go_wp2_with fail
      refine (HC.out _ V3 (blk_new _ _ _ (by simp)) r3 (blk_keep _ (blk_new _ _ _ (by simp))) k3 (blk_keep _ (blk_keep _ (blk_new _ _ _ rfl)))).mono ?_
      rintro x w4 ⟨rfl, n4, M4, g4, o4, h4, l4⟩
      have r4 := (g4.block _ (blk_lt r3) (by simp)).trans r3
      have k4 := (g4.block _ (blk_lt k3) (by simp)).trans k3
      have U4 := (U2.trans V3).grown g4 (fun q hq => by have := Option.some.inj hq; omega)
      clear r3 k3 g4 V3 HC U2
      go_wp2
      go_roundw
      case rel => exact ⟨n4, M4, .inr (.inl ⟨rfl, by omega, h4⟩), r4, k4, o4, U4⟩
      case measure => simp [intOf]
    · -- part 1
      have z1 := blk_lt r2
      have z2 := blk_lt k2
      have r3 := blk_keep (.cells #[.func (.func 88) #[] #[.pointer (some ⟨wr.heap.size + 1 + 1, 0, none⟩), .pointer (some ⟨w.heap.size, 0, none⟩), .pointer (some ⟨wr.heap.size + 1, 0, none⟩), .pointer (some ⟨w.heap.size + 1 + 1, 0, none⟩), .pointer (some ⟨wr.heap.size, 0, none⟩)]] 61) (blk_keep (.cells #[.int .i64 0, .func (.func 102) #[] #[]] 126) (blk_keep (.cells #[.int .i64 1] 3) r2))
      have k3 := blk_keep (.cells #[.func (.func 88) #[] #[.pointer (some ⟨wr.heap.size + 1 + 1, 0, none⟩), .pointer (some ⟨w.heap.size, 0, none⟩), .pointer (some ⟨wr.heap.size + 1, 0, none⟩), .pointer (some ⟨w.heap.size + 1 + 1, 0, none⟩), .pointer (some ⟨wr.heap.size, 0, none⟩)]] 61) (blk_keep (.cells #[.int .i64 0, .func (.func 102) #[] #[]] 126) (blk_keep (.cells #[.int .i64 1] 3) k2))
      have HC := Lib.hid (fun W (u : Up wr W) q1 q2 q3 q4 q5 => can_unsteered (e := 0) (sg := 0) (p := 1) (dl := dl) (dh := dh) (f := f) (s := s) (j := j) (bc := wr.heap.size + 1 + 1) (br := w.heap.size) (bd := wr.heap.size + 1) (bk := w.heap.size + 1 + 1) (bp := wr.heap.size) (m := w.heap.size + 1) j1 j2 (by omega) (by omega) ⟨by omega, by omega⟩ ⟨by omega, by omega, by omega, by omega, by omega⟩ (fun w => unsteered_any f s j dl dh w) _ 100 (Nat.le_refl _) n M W (by omega) q1 q2 q3 q4 q5 (hown.kept (up_grown u none) (by simp)) hM)
      have V3 := ((Up.refl wr).alloc (.cells #[.int .i64 1] 3)).alloc (.cells #[.int .i64 0, .func (.func 102) #[] #[]] 126) |>.alloc (.cells #[.func (.func 88) #[] #[.pointer (some ⟨wr.heap.size + 1 + 1, 0, none⟩), .pointer (some ⟨w.heap.size, 0, none⟩), .pointer (some ⟨wr.heap.size + 1, 0, none⟩), .pointer (some ⟨w.heap.size + 1 + 1, 0, none⟩), .pointer (some ⟨wr.heap.size, 0, none⟩)]] 61)
      clear hM hown r2 k2
      go_wp2_with fail
      refine (HC.out _ V3 (blk_new _ _ _ (by simp)) r3 (blk_keep _ (blk_new _ _ _ (by simp))) k3 (blk_keep _ (blk_keep _ (blk_new _ _ _ rfl)))).mono ?_
      rintro x w4 ⟨rfl, n4, M4, g4, o4, h4, l4⟩
      have r4 := (g4.block _ (blk_lt r3) (by simp)).trans r3
      have k4 := (g4.block _ (blk_lt k3) (by simp)).trans k3
      have U4 := (U2.trans V3).grown g4 (fun q hq => by have := Option.some.inj hq; omega)
      clear r3 k3 g4 V3 HC U2
      go_wp2
      go_roundw
      case rel => exact ⟨n4, M4, .inr (.inr (.inl ⟨rfl, by omega, h4⟩)), r4, k4, o4, U4⟩
      case measure => simp [intOf]
    · -- part 2
      have z1 := blk_lt r2
      have z2 := blk_lt k2
      have r3 := blk_keep (.cells #[.func (.func 88) #[] #[.pointer (some ⟨wr.heap.size + 1 + 1, 0, none⟩), .pointer (some ⟨w.heap.size, 0, none⟩), .pointer (some ⟨wr.heap.size + 1, 0, none⟩), .pointer (some ⟨w.heap.size + 1 + 1, 0, none⟩), .pointer (some ⟨wr.heap.size, 0, none⟩)]] 61) (blk_keep (.cells #[.int .i64 1, .func (.func 103) #[] #[]] 126) (blk_keep (.cells #[.int .i64 2] 3) r2))
      have k3 := blk_keep (.cells #[.func (.func 88) #[] #[.pointer (some ⟨wr.heap.size + 1 + 1, 0, none⟩), .pointer (some ⟨w.heap.size, 0, none⟩), .pointer (some ⟨wr.heap.size + 1, 0, none⟩), .pointer (some ⟨w.heap.size + 1 + 1, 0, none⟩), .pointer (some ⟨wr.heap.size, 0, none⟩)]] 61) (blk_keep (.cells #[.int .i64 1, .func (.func 103) #[] #[]] 126) (blk_keep (.cells #[.int .i64 2] 3) k2))
      have HC := Lib.hid (fun W (u : Up wr W) q1 q2 q3 q4 q5 => can_fastest (e := f) (sg := 1) (p := 2) (dl := dl) (dh := dh) (f := f) (s := s) (j := j) (bc := wr.heap.size + 1 + 1) (br := w.heap.size) (bd := wr.heap.size + 1) (bk := w.heap.size + 1 + 1) (bp := wr.heap.size) (m := w.heap.size + 1) j1 j2 f1 f2 ⟨by omega, by omega⟩ ⟨by omega, by omega, by omega, by omega, by omega⟩ (fun w => fastest_any f s j dl dh w) _ 100 (Nat.le_refl _) n M W (by omega) q1 q2 q3 q4 q5 (hown.kept (up_grown u none) (by simp)) hM)
      have V3 := ((Up.refl wr).alloc (.cells #[.int .i64 2] 3)).alloc (.cells #[.int .i64 1, .func (.func 103) #[] #[]] 126) |>.alloc (.cells #[.func (.func 88) #[] #[.pointer (some ⟨wr.heap.size + 1 + 1, 0, none⟩), .pointer (some ⟨w.heap.size, 0, none⟩), .pointer (some ⟨wr.heap.size + 1, 0, none⟩), .pointer (some ⟨w.heap.size + 1 + 1, 0, none⟩), .pointer (some ⟨wr.heap.size, 0, none⟩)]] 61)
      clear hM hown r2 k2
      go_wp2_with fail
      refine (HC.out _ V3 (blk_new _ _ _ (by simp)) r3 (blk_keep _ (blk_new _ _ _ (by simp))) k3 (blk_keep _ (blk_keep _ (blk_new _ _ _ rfl)))).mono ?_
      rintro x w4 ⟨rfl, n4, M4, g4, o4, h4, l4⟩
      have r4 := (g4.block _ (blk_lt r3) (by simp)).trans r3
      have k4 := (g4.block _ (blk_lt k3) (by simp)).trans k3
      have U4 := (U2.trans V3).grown g4 (fun q hq => by have := Option.some.inj hq; omega)
      clear r3 k3 g4 V3 HC U2
      go_wp2
      go_roundw
      case rel => exact ⟨n4, M4, .inr (.inr (.inr ⟨rfl, by omega, h4⟩)), r4, k4, o4, U4⟩
      case measure => simp [intOf]
    · have HM := Lib.hid (hM.cong (S.knows_is f s j))
      have HO := Lib.hid hown
      clear hM hown
      go_wp2
      go_ret
      exact ⟨_, rfl, U2, ⟨_, n, M, rfl, HO.out, HM.out⟩⟩

end Go.Proofs.Ytckjggkikpgidaa
