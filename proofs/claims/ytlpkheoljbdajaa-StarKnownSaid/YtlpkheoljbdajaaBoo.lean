import Derived.Test.YtlpkheoljbdajaaBig
import Derived.Test.YtlpkheoljbdajaaHeQ
/- Is a book one: the contracts of its questions, of areAll and the library functions below it. -/
namespace Go.Proofs.Ytlpkheoljbdajaa
open Go.RowKit Go.Shelf

/-- a slice of things of so many numbers, in memory -/
structure Tab {α : Type} (k : Nat) (enc : α → Nat → Int) (d : α) (w : World) (v : Value) (xs : List α) : Prop where
  mk :: (is : ∃ a c, v = .slice a xs.length c ∧ xs.length ≤ c ∧ xs.length ≤ 9223372036854775807 ∧ (0 < xs.length → ∃ g off, a = some ⟨g, off, none⟩ ∧ g < w.heap.size ∧ ∀ j, j < xs.length → ∀ i, i < k → w.cell? ⟨g, off + j * k + i, none⟩ = some (.int .i64 (enc (xs.getD j d) i))))
section
variable {α : Type} {k : Nat} {enc : α → Nat → Int} {d : α} {w w' : World} {xs : List α}
theorem Tab.up {v : Value} (h : Tab k enc d w v xs) (u : Up w w') : Tab k enc d w' v xs := by
  obtain ⟨a, c, e, hc, hl, hm⟩ := h.is
  refine ⟨a, c, e, hc, hl, fun h0 => ?_⟩
  obtain ⟨g, off, e1, e2, e3⟩ := hm h0
  exact ⟨g, off, e1, by have := u.size; omega, fun j hj i hi => (u.facts.1 g _ e2).trans (e3 j hj i hi)⟩
theorem Tab.nil (w : World) : Tab k enc d w (.slice none 0 0) [] := ⟨none, 0, rfl, Nat.le_refl _, by simp, fun h => by simp at h⟩
theorem Tab.new {g cap : Nat} {cs : Array Value} {t : TypeId} {fr : Nat × Nat} (h : mblk w g = some (.cells cs t fr)) (hc : xs.length ≤ cap) (hl : xs.length ≤ 9223372036854775807) (hx : ∀ j, j < xs.length → ∀ i, i < k → cs[j * k + i]? = some (.int .i64 (enc (xs.getD j d) i))) : Tab k enc d w (.slice (some ⟨g, 0, none⟩) xs.length cap) xs :=
  ⟨_, _, rfl, hc, hl, fun _ => ⟨g, 0, rfl, blk_lt h, fun j hj i hi => by rw [cellB h, Nat.zero_add]; exact hx j hj i hi⟩⟩
theorem Tab.len {a : Option Addr} {n c : Nat} (I : Tab k enc d w (.slice a n c) xs) : n = xs.length := by
  obtain ⟨a', c', e, hc, hl, hm⟩ := I.is
  injection e
theorem Tab.max {v : Value} (I : Tab k enc d w v xs) : xs.length ≤ 9223372036854775807 := by
  obtain ⟨a', c', e, hc, hl, hm⟩ := I.is
  exact hl
theorem Tab.sl {v : Value} (I : Tab k enc d w v xs) : ∃ a n c, v = .slice a n c ∧ n = xs.length ∧ n ≤ c := by
  obtain ⟨a', c', e, hc, hl, hm⟩ := I.is
  exact ⟨_, _, _, e, rfl, hc⟩
theorem all_drop' {p : α → Bool} {k : Nat} (hk : k < xs.length) : (xs.drop k).all p = (p (xs.getD k d) && (xs.drop (k + 1)).all p) := by
  rw [List.drop_eq_getElem_cons hk, List.all_cons, List.getD_eq_getElem?_getD, List.getElem?_eq_getElem hk]
  rfl
end
/-- spans, looks, ties, as numbers -/
def T.encS : Int × Int → Nat → Int
  | (l, _), 0 => l
  | (_, h), _ => h
def T.encO : Int × Int × Int × Int → Nat → Int
  | (c, _, _, _), 0 => c
  | (_, h, _, _), 1 => h
  | (_, _, l, _), 2 => l
  | (_, _, _, u), _ => u
def T.encL : Int × Int × Int × Int × Int → Nat → Int
  | (h, _, _, _, _), 0 => h
  | (_, a, _, _, _), 1 => a
  | (_, _, b, _, _), 2 => b
  | (_, _, _, l, _), 3 => l
  | (_, _, _, _, u), _ => u
abbrev T.T5 := Int × Int × Int × Int × Int
abbrev Sps := Tab 2 T.encS (0, 0)
abbrev Lks := Tab 5 T.encL (0, 0, 0, 0, 0)
/-- how many there are of a kind -/
def T.many (nP nQ : Nat) (N : Int) : Int → Int
  | 0 => nP
  | 1 => nQ
  | _ => N
def T.perOk (s : Int × Int) : Bool := S.spanOk s.1 s.2 (-2000) 2000
def T.pathOk (s : Int × Int) : Bool := S.spanOk s.1 s.2 0 5000
def T.lookOk (nP nQ : Nat) (N : Int) (x : T.T5) : Bool := inB x.1 0 (N - 1) && (inB x.2.1 0 1 && (inB x.2.2.1 0 (T.many nP nQ N x.2.1 - 1) && (inB x.2.2.2.1 (-30000) 30000 && inB x.2.2.2.2 0 2000)))
def T.nightsOk (N bl bh rl rh : Int) : Bool := inB N 1 8 && (S.spanOk bl bh (-20000) 20000 && S.spanOk rl rh (-1000) 1000)
def T.othersOk (ps qs : List (Int × Int)) : Bool := (decide (ps.length ≤ 4) && ps.all T.perOk) && (decide (qs.length ≤ 4) && qs.all T.pathOk)

section
variable {N bl bh rl rh : Int} {aP aQ aL : Option Addr} {nP cP nQ cQ nL cL : Nat} {o : Nat → Bool}
set_option maxRecDepth 100000 in
theorem people_any (w : World) : Calls Try.prog 105 #[(BkV N bl bh rl rh (.slice aP nP cP) (.slice aQ nQ cQ) (.slice aL nL cL) o)] w fun e w' => e = .returned (.int .i64 (nP : Int)) ∧ Up w w' := by
  have U := (Up.refl w).alloc (.cells (BkC N bl bh rl rh (.slice aP nP cP) (.slice aQ nQ cQ) (.slice aL nL cL) o) 81)
  go_enter Try.func105, Try.ntmps105
  go_wp2
  go_ret
  exact ⟨rfl, U⟩
set_option maxRecDepth 100000 in
theorem paths_any (w : World) : Calls Try.prog 108 #[(BkV N bl bh rl rh (.slice aP nP cP) (.slice aQ nQ cQ) (.slice aL nL cL) o)] w fun e w' => e = .returned (.int .i64 (nQ : Int)) ∧ Up w w' := by
  have U := (Up.refl w).alloc (.cells (BkC N bl bh rl rh (.slice aP nP cP) (.slice aQ nQ cQ) (.slice aL nL cL) o) 81)
  go_enter Try.func108, Try.ntmps108
  go_wp2
  go_ret
  exact ⟨rfl, U⟩
set_option maxRecDepth 100000 in
theorem nights_any (w : World) : Calls Try.prog 111 #[(BkV N bl bh rl rh (.slice aP nP cP) (.slice aQ nQ cQ) (.slice aL nL cL) o)] w fun e w' => e = .returned (.int .i64 N) ∧ Up w w' := by
  have U := (Up.refl w).alloc (.cells (BkC N bl bh rl rh (.slice aP nP cP) (.slice aQ nQ cQ) (.slice aL nL cL) o) 81)
  go_enter Try.func111, Try.ntmps111
  go_wp2
  go_ret
  exact ⟨rfl, U⟩
set_option maxRecDepth 100000 in
theorem isPerson_any (l h : Int) (w : World) : Calls Try.prog 101 #[SpV l h] w fun e w' => e = .returned (.bool (T.perOk (l, h))) ∧ Up w w' := by
  have U := (Up.refl w).alloc (.cells #[.int .i64 l, .int .i64 h] 23)
  have HW := Lib.hid (fun w => isSpan_any l h (-2000) 2000 w)
  rw [show T.perOk (l, h) = S.spanOk l h (-2000) 2000 from rfl]
  generalize S.spanOk l h (-2000) 2000 = q at *
  go_enter Try.func101, Try.ntmps101
  go_wp2_with fail
  refine (HW.out _).mono ?_
  rintro e w1 ⟨rfl, u1⟩
  go_wp2
  go_ret
  exact ⟨rfl, U.trans u1⟩
set_option maxRecDepth 100000 in
theorem isPath_any (l h : Int) (w : World) : Calls Try.prog 102 #[SpV l h] w fun e w' => e = .returned (.bool (T.pathOk (l, h))) ∧ Up w w' := by
  have U := (Up.refl w).alloc (.cells #[.int .i64 l, .int .i64 h] 23)
  have HW := Lib.hid (fun w => isSpan_any l h 0 5000 w)
  rw [show T.pathOk (l, h) = S.spanOk l h 0 5000 from rfl]
  generalize S.spanOk l h 0 5000 = q at *
  go_enter Try.func102, Try.ntmps102
  go_wp2_with fail
  refine (HW.out _).mono ?_
  rintro e w1 ⟨rfl, u1⟩
  go_wp2
  go_ret
  exact ⟨rfl, U.trans u1⟩
set_option maxRecDepth 100000 in
set_option maxHeartbeats 2000000 in
theorem has_0 (n : Int) (w : World) (hm : -1000000 ≤ (nP : Int) ∧ (nP : Int) ≤ 9223372036854775807) : Calls Try.prog 92 #[(BkV N bl bh rl rh (.slice aP nP cP) (.slice aQ nQ cQ) (.slice aL nL cL) o), .int .i64 0, .int .i64 n] w fun e w' => e = .returned (.bool (inB n 0 ((nP : Int) - 1))) ∧ Up w w' := by
  have hmx : Try.prog.follows .mixedOrders = true := by kernel_rfl
  have U := (Up.refl w).alloc (.cells (BkC N bl bh rl rh (.slice aP nP cP) (.slice aQ nQ cQ) (.slice aL nL cL) o) 81)
  have kB := blk_new w (.cells (BkC N bl bh rl rh (.slice aP nP cP) (.slice aQ nQ cQ) (.slice aL nL cL) o) 81) _ rfl
  have wr : IntKind.i64.wrap ((nP : Int) - 1) = (nP : Int) - 1 := IntWalk.i64_in _ (by omega)
  have HW := Lib.hid (fun w => within_any n 0 ((nP : Int) - 1) w)
  obtain ⟨q, hq⟩ : ∃ q, inB n 0 ((nP : Int) - 1) = q := ⟨_, rfl⟩
  rw [hq] at HW ⊢
  clear hq hm
  go_enter Try.func92, Try.ntmps92
  go_wp2_with fail
  obtain ⟨W0, hW⟩ : ∃ z, w.alloc (.cells (BkC N bl bh rl rh (.slice aP nP cP) (.slice aQ nQ cQ) (.slice aL nL cL) o) 81) = z := ⟨_, rfl⟩
  obtain ⟨p, hp⟩ : ∃ z, w.heap.size = z := ⟨_, rfl⟩
  rw [hW] at kB U
  rw [hp] at kB
  try rw [hW]
  try rw [hp]
  clear hW hp
  have F2 := Lib.hid (fun w (u : Up W0 w) => u.blk kB)
  refine (wpIn_wide (n := 5)).1 ?_
  refine wpIn_nrm ?_
  refine T.regionQ (fun w' => Up W0 w') 9 1 hmx (by kernel_rfl) (by kernel_rfl) ((Up.refl W0).drew) (fun hCl => ?_)
  refine T.qTake (i := 0) (d := (some 7)) (v := ?v1) rfl rfl (by kernel_rfl) (by decide) hCl (by kernel_rfl) (by kernel_rfl) (by kernel_rfl) (by rfl) ?hy1 (fun _ _ _ => trivial) (fun hCl' => ?_)
  case hy1 => (intro w hSw; refine T.qVal ?_ hSw; (have fF2 := F2.out w hSw); (try dsimp only [List.getElem_toArray, List.getElem_cons_succ, List.getElem_cons_zero]); go_simp; try with_reducible rfl)
  simp only [Act.put, List.setIfInBounds_toArray, List.set_cons_zero, List.set_cons_succ]
  replace hCl := hCl'; clear hCl'
  refine T.qTake (i := 2) (d := (some 9)) (v := ?v2) rfl rfl (by kernel_rfl) (by decide) hCl (by kernel_rfl) (by kernel_rfl) (by kernel_rfl) (by rfl) ?hy2 (fun _ _ _ => trivial) (fun hCl' => ?_)
  case hy2 => (intro w hSw; refine T.qVal ?_ hSw; (have fF2 := F2.out w hSw); (try dsimp only [List.getElem_toArray, List.getElem_cons_succ, List.getElem_cons_zero]); go_simp; try with_reducible rfl)
  simp only [Act.put, List.setIfInBounds_toArray, List.set_cons_zero, List.set_cons_succ]
  replace hCl := hCl'; clear hCl'
  refine T.qTake (i := 5) (d := (some 12)) (v := ?v3) rfl rfl (by kernel_rfl) (by decide) hCl (by kernel_rfl) (by kernel_rfl) (by kernel_rfl) (by rfl) ?hy3 (fun _ _ _ => trivial) (fun hCl' => ?_)
  case hy3 => (intro w hSw; refine T.qVal ?_ hSw; (have fF2 := F2.out w hSw); (try dsimp only [List.getElem_toArray, List.getElem_cons_succ, List.getElem_cons_zero]); go_simp; try with_reducible rfl)
  simp only [Act.put, List.setIfInBounds_toArray, List.set_cons_zero, List.set_cons_succ]
  replace hCl := hCl'; clear hCl'
  refine T.qTake (i := 1) (d := (some 8)) (v := (KiV)) rfl rfl (by kernel_rfl) (by decide) hCl (by kernel_rfl) (by kernel_rfl) (by kernel_rfl) (by rfl) ?hy4 (fun _ _ _ => trivial) (fun hCl' => ?_)
  case hy4 => (intro w hSw; (have fF2 := F2.out w hSw); (try dsimp only [List.getElem_toArray, List.getElem_cons_succ, List.getElem_cons_zero]); go_simp; (refine (callsIn_wide.2 (kinds_any _)).mono ?_; rintro e w3 ⟨rfl, u3⟩; exact ⟨rfl, hSw.trans u3⟩))
  simp only [Act.put, List.setIfInBounds_toArray, List.set_cons_zero, List.set_cons_succ]
  replace hCl := hCl'; clear hCl'
  refine T.qTake (i := 3) (d := (some 10)) (v := ?v5) rfl rfl (by kernel_rfl) (by decide) hCl (by kernel_rfl) (by kernel_rfl) (by kernel_rfl) (by rfl) ?hy5 (fun _ _ _ => trivial) (fun hCl' => ?_)
  case hy5 => (intro w hSw; refine T.qVal ?_ hSw; (have fF2 := F2.out w hSw); (try dsimp only [List.getElem_toArray, List.getElem_cons_succ, List.getElem_cons_zero]); go_simp; try with_reducible rfl)
  simp only [Act.put, List.setIfInBounds_toArray, List.set_cons_zero, List.set_cons_succ]
  replace hCl := hCl'; clear hCl'
  refine T.qTake (i := 4) (d := (some 11)) (v := ?v6) rfl rfl (by kernel_rfl) (by decide) hCl (by kernel_rfl) (by kernel_rfl) (by kernel_rfl) (by rfl) ?hy6 (fun _ _ _ => trivial) (fun hCl' => ?_)
  case hy6 => (intro w hSw; refine T.qVal ?_ hSw; (have fF2 := F2.out w hSw); (try dsimp only [List.getElem_toArray, List.getElem_cons_succ, List.getElem_cons_zero]); go_simp; try with_reducible rfl)
  simp only [Act.put, List.setIfInBounds_toArray, List.set_cons_zero, List.set_cons_succ]
  replace hCl := hCl'; clear hCl'
  refine T.qTake (i := 6) (d := (some 13)) (v := ((.int .i64 (nP : Int)))) rfl rfl (by kernel_rfl) (by decide) hCl (by kernel_rfl) (by kernel_rfl) (by kernel_rfl) (by rfl) ?hy7 (fun _ _ _ => trivial) (fun hCl' => ?_)
  case hy7 => (intro w hSw; (have fF2 := F2.out w hSw); (try dsimp only [List.getElem_toArray, List.getElem_cons_succ, List.getElem_cons_zero]); go_simp; (refine (callsIn_wide.2 (people_any (N := N) (bl := bl) (bh := bh) (rl := rl) (rh := rh) (aP := aP) (aQ := aQ) (aL := aL) (nP := nP) (cP := cP) (nQ := nQ) (cQ := cQ) (nL := nL) (cL := cL) (o := o) _)).mono ?_; rintro e w3 ⟨rfl, u3⟩; exact ⟨rfl, hSw.trans u3⟩))
  simp only [Act.put, List.setIfInBounds_toArray, List.set_cons_zero, List.set_cons_succ]
  replace hCl := hCl'; clear hCl'
  refine T.qTake (i := 7) (d := (some 14)) (v := ?v8) rfl rfl (by kernel_rfl) (by decide) hCl (by kernel_rfl) (by kernel_rfl) (by kernel_rfl) (by rfl) ?hy8 (fun _ _ _ => trivial) (fun hCl' => ?_)
  case hy8 => (intro w hSw; refine T.qVal ?_ hSw; (have fF2 := F2.out w hSw); (try dsimp only [List.getElem_toArray, List.getElem_cons_succ, List.getElem_cons_zero]); go_simp; try with_reducible rfl)
  simp only [Act.put, List.setIfInBounds_toArray, List.set_cons_zero, List.set_cons_succ]
  replace hCl := hCl'; clear hCl'
  refine T.qTake (i := 8) (d := (some 15)) (v := ((.bool q))) rfl rfl (by kernel_rfl) (by decide) hCl (by kernel_rfl) (by kernel_rfl) (by kernel_rfl) (by rfl) ?hy9 (fun _ _ _ => trivial) (fun hCl' => ?_)
  case hy9 => (intro w hSw; (have fF2 := F2.out w hSw); (try dsimp only [List.getElem_toArray, List.getElem_cons_succ, List.getElem_cons_zero]); go_simp; (refine (callsIn_wide.2 (HW.out _)).mono ?_; rintro e w3 ⟨rfl, rfl⟩; exact ⟨rfl, hSw⟩))
  simp only [Act.put, List.setIfInBounds_toArray, List.set_cons_zero, List.set_cons_succ]
  replace hCl := hCl'; clear hCl'
  refine T.tail_intro (by kernel_rfl) (fun Y1 hY1 => ?_)
  replace U := U.trans hY1
  replace kB := hY1.blk kB
  clear F2 hY1
  refine lastG (i := 9) (by kernel_rfl) rfl (by rfl) (by decide) (fun K hK => ?_)
  go_simp
  refine hK.out _ _ ?_
  clear hK K
  refine doneG (by kernel_rfl) ?_ _
  refine S.nrm_intro ?_
  go_wp2
  go_ret
  exact ⟨rfl, U⟩
set_option maxRecDepth 100000 in
set_option maxHeartbeats 2000000 in
theorem has_1 (n : Int) (w : World) (hm : -1000000 ≤ (nQ : Int) ∧ (nQ : Int) ≤ 9223372036854775807) : Calls Try.prog 92 #[(BkV N bl bh rl rh (.slice aP nP cP) (.slice aQ nQ cQ) (.slice aL nL cL) o), .int .i64 1, .int .i64 n] w fun e w' => e = .returned (.bool (inB n 0 ((nQ : Int) - 1))) ∧ Up w w' := by
  have hmx : Try.prog.follows .mixedOrders = true := by kernel_rfl
  have U := (Up.refl w).alloc (.cells (BkC N bl bh rl rh (.slice aP nP cP) (.slice aQ nQ cQ) (.slice aL nL cL) o) 81)
  have kB := blk_new w (.cells (BkC N bl bh rl rh (.slice aP nP cP) (.slice aQ nQ cQ) (.slice aL nL cL) o) 81) _ rfl
  have wr : IntKind.i64.wrap ((nQ : Int) - 1) = (nQ : Int) - 1 := IntWalk.i64_in _ (by omega)
  have HW := Lib.hid (fun w => within_any n 0 ((nQ : Int) - 1) w)
  obtain ⟨q, hq⟩ : ∃ q, inB n 0 ((nQ : Int) - 1) = q := ⟨_, rfl⟩
  rw [hq] at HW ⊢
  clear hq hm
  go_enter Try.func92, Try.ntmps92
  go_wp2_with fail
  obtain ⟨W0, hW⟩ : ∃ z, w.alloc (.cells (BkC N bl bh rl rh (.slice aP nP cP) (.slice aQ nQ cQ) (.slice aL nL cL) o) 81) = z := ⟨_, rfl⟩
  obtain ⟨p, hp⟩ : ∃ z, w.heap.size = z := ⟨_, rfl⟩
  rw [hW] at kB U
  rw [hp] at kB
  try rw [hW]
  try rw [hp]
  clear hW hp
  have F2 := Lib.hid (fun w (u : Up W0 w) => u.blk kB)
  refine (wpIn_wide (n := 5)).1 ?_
  refine wpIn_nrm ?_
  refine T.regionQ (fun w' => Up W0 w') 9 1 hmx (by kernel_rfl) (by kernel_rfl) ((Up.refl W0).drew) (fun hCl => ?_)
  refine T.qTake (i := 0) (d := (some 7)) (v := ?v10) rfl rfl (by kernel_rfl) (by decide) hCl (by kernel_rfl) (by kernel_rfl) (by kernel_rfl) (by rfl) ?hy10 (fun _ _ _ => trivial) (fun hCl' => ?_)
  case hy10 => (intro w hSw; refine T.qVal ?_ hSw; (have fF2 := F2.out w hSw); (try dsimp only [List.getElem_toArray, List.getElem_cons_succ, List.getElem_cons_zero]); go_simp; try with_reducible rfl)
  simp only [Act.put, List.setIfInBounds_toArray, List.set_cons_zero, List.set_cons_succ]
  replace hCl := hCl'; clear hCl'
  refine T.qTake (i := 2) (d := (some 9)) (v := ?v11) rfl rfl (by kernel_rfl) (by decide) hCl (by kernel_rfl) (by kernel_rfl) (by kernel_rfl) (by rfl) ?hy11 (fun _ _ _ => trivial) (fun hCl' => ?_)
  case hy11 => (intro w hSw; refine T.qVal ?_ hSw; (have fF2 := F2.out w hSw); (try dsimp only [List.getElem_toArray, List.getElem_cons_succ, List.getElem_cons_zero]); go_simp; try with_reducible rfl)
  simp only [Act.put, List.setIfInBounds_toArray, List.set_cons_zero, List.set_cons_succ]
  replace hCl := hCl'; clear hCl'
  refine T.qTake (i := 5) (d := (some 12)) (v := ?v12) rfl rfl (by kernel_rfl) (by decide) hCl (by kernel_rfl) (by kernel_rfl) (by kernel_rfl) (by rfl) ?hy12 (fun _ _ _ => trivial) (fun hCl' => ?_)
  case hy12 => (intro w hSw; refine T.qVal ?_ hSw; (have fF2 := F2.out w hSw); (try dsimp only [List.getElem_toArray, List.getElem_cons_succ, List.getElem_cons_zero]); go_simp; try with_reducible rfl)
  simp only [Act.put, List.setIfInBounds_toArray, List.set_cons_zero, List.set_cons_succ]
  replace hCl := hCl'; clear hCl'
  refine T.qTake (i := 1) (d := (some 8)) (v := (KiV)) rfl rfl (by kernel_rfl) (by decide) hCl (by kernel_rfl) (by kernel_rfl) (by kernel_rfl) (by rfl) ?hy13 (fun _ _ _ => trivial) (fun hCl' => ?_)
  case hy13 => (intro w hSw; (have fF2 := F2.out w hSw); (try dsimp only [List.getElem_toArray, List.getElem_cons_succ, List.getElem_cons_zero]); go_simp; (refine (callsIn_wide.2 (kinds_any _)).mono ?_; rintro e w3 ⟨rfl, u3⟩; exact ⟨rfl, hSw.trans u3⟩))
  simp only [Act.put, List.setIfInBounds_toArray, List.set_cons_zero, List.set_cons_succ]
  replace hCl := hCl'; clear hCl'
  refine T.qTake (i := 3) (d := (some 10)) (v := ?v14) rfl rfl (by kernel_rfl) (by decide) hCl (by kernel_rfl) (by kernel_rfl) (by kernel_rfl) (by rfl) ?hy14 (fun _ _ _ => trivial) (fun hCl' => ?_)
  case hy14 => (intro w hSw; refine T.qVal ?_ hSw; (have fF2 := F2.out w hSw); (try dsimp only [List.getElem_toArray, List.getElem_cons_succ, List.getElem_cons_zero]); go_simp; try with_reducible rfl)
  simp only [Act.put, List.setIfInBounds_toArray, List.set_cons_zero, List.set_cons_succ]
  replace hCl := hCl'; clear hCl'
  refine T.qTake (i := 4) (d := (some 11)) (v := ?v15) rfl rfl (by kernel_rfl) (by decide) hCl (by kernel_rfl) (by kernel_rfl) (by kernel_rfl) (by rfl) ?hy15 (fun _ _ _ => trivial) (fun hCl' => ?_)
  case hy15 => (intro w hSw; refine T.qVal ?_ hSw; (have fF2 := F2.out w hSw); (try dsimp only [List.getElem_toArray, List.getElem_cons_succ, List.getElem_cons_zero]); go_simp; try with_reducible rfl)
  simp only [Act.put, List.setIfInBounds_toArray, List.set_cons_zero, List.set_cons_succ]
  replace hCl := hCl'; clear hCl'
  refine T.qTake (i := 6) (d := (some 13)) (v := ((.int .i64 (nQ : Int)))) rfl rfl (by kernel_rfl) (by decide) hCl (by kernel_rfl) (by kernel_rfl) (by kernel_rfl) (by rfl) ?hy16 (fun _ _ _ => trivial) (fun hCl' => ?_)
  case hy16 => (intro w hSw; (have fF2 := F2.out w hSw); (try dsimp only [List.getElem_toArray, List.getElem_cons_succ, List.getElem_cons_zero]); go_simp; (refine (callsIn_wide.2 (paths_any (N := N) (bl := bl) (bh := bh) (rl := rl) (rh := rh) (aP := aP) (aQ := aQ) (aL := aL) (nP := nP) (cP := cP) (nQ := nQ) (cQ := cQ) (nL := nL) (cL := cL) (o := o) _)).mono ?_; rintro e w3 ⟨rfl, u3⟩; exact ⟨rfl, hSw.trans u3⟩))
  simp only [Act.put, List.setIfInBounds_toArray, List.set_cons_zero, List.set_cons_succ]
  replace hCl := hCl'; clear hCl'
  refine T.qTake (i := 7) (d := (some 14)) (v := ?v17) rfl rfl (by kernel_rfl) (by decide) hCl (by kernel_rfl) (by kernel_rfl) (by kernel_rfl) (by rfl) ?hy17 (fun _ _ _ => trivial) (fun hCl' => ?_)
  case hy17 => (intro w hSw; refine T.qVal ?_ hSw; (have fF2 := F2.out w hSw); (try dsimp only [List.getElem_toArray, List.getElem_cons_succ, List.getElem_cons_zero]); go_simp; try with_reducible rfl)
  simp only [Act.put, List.setIfInBounds_toArray, List.set_cons_zero, List.set_cons_succ]
  replace hCl := hCl'; clear hCl'
  refine T.qTake (i := 8) (d := (some 15)) (v := ((.bool q))) rfl rfl (by kernel_rfl) (by decide) hCl (by kernel_rfl) (by kernel_rfl) (by kernel_rfl) (by rfl) ?hy18 (fun _ _ _ => trivial) (fun hCl' => ?_)
  case hy18 => (intro w hSw; (have fF2 := F2.out w hSw); (try dsimp only [List.getElem_toArray, List.getElem_cons_succ, List.getElem_cons_zero]); go_simp; (refine (callsIn_wide.2 (HW.out _)).mono ?_; rintro e w3 ⟨rfl, rfl⟩; exact ⟨rfl, hSw⟩))
  simp only [Act.put, List.setIfInBounds_toArray, List.set_cons_zero, List.set_cons_succ]
  replace hCl := hCl'; clear hCl'
  refine T.tail_intro (by kernel_rfl) (fun Y1 hY1 => ?_)
  replace U := U.trans hY1
  replace kB := hY1.blk kB
  clear F2 hY1
  refine lastG (i := 9) (by kernel_rfl) rfl (by rfl) (by decide) (fun K hK => ?_)
  go_simp
  refine hK.out _ _ ?_
  clear hK K
  refine doneG (by kernel_rfl) ?_ _
  refine S.nrm_intro ?_
  go_wp2
  go_ret
  exact ⟨rfl, U⟩
set_option maxRecDepth 100000 in
set_option maxHeartbeats 2000000 in
theorem has_2 (n : Int) (w : World) (hm : -1000000 ≤ N ∧ N ≤ 9223372036854775807) : Calls Try.prog 92 #[(BkV N bl bh rl rh (.slice aP nP cP) (.slice aQ nQ cQ) (.slice aL nL cL) o), .int .i64 2, .int .i64 n] w fun e w' => e = .returned (.bool (inB n 0 (N - 1))) ∧ Up w w' := by
  have hmx : Try.prog.follows .mixedOrders = true := by kernel_rfl
  have U := (Up.refl w).alloc (.cells (BkC N bl bh rl rh (.slice aP nP cP) (.slice aQ nQ cQ) (.slice aL nL cL) o) 81)
  have kB := blk_new w (.cells (BkC N bl bh rl rh (.slice aP nP cP) (.slice aQ nQ cQ) (.slice aL nL cL) o) 81) _ rfl
  have wr : IntKind.i64.wrap (N - 1) = N - 1 := IntWalk.i64_in _ (by omega)
  have HW := Lib.hid (fun w => within_any n 0 (N - 1) w)
  obtain ⟨q, hq⟩ : ∃ q, inB n 0 (N - 1) = q := ⟨_, rfl⟩
  rw [hq] at HW ⊢
  clear hq hm
  go_enter Try.func92, Try.ntmps92
  go_wp2_with fail
  obtain ⟨W0, hW⟩ : ∃ z, w.alloc (.cells (BkC N bl bh rl rh (.slice aP nP cP) (.slice aQ nQ cQ) (.slice aL nL cL) o) 81) = z := ⟨_, rfl⟩
  obtain ⟨p, hp⟩ : ∃ z, w.heap.size = z := ⟨_, rfl⟩
  rw [hW] at kB U
  rw [hp] at kB
  try rw [hW]
  try rw [hp]
  clear hW hp
  have F2 := Lib.hid (fun w (u : Up W0 w) => u.blk kB)
  refine (wpIn_wide (n := 5)).1 ?_
  refine wpIn_nrm ?_
  refine T.regionQ (fun w' => Up W0 w') 9 1 hmx (by kernel_rfl) (by kernel_rfl) ((Up.refl W0).drew) (fun hCl => ?_)
  refine T.qTake (i := 0) (d := (some 7)) (v := ?v19) rfl rfl (by kernel_rfl) (by decide) hCl (by kernel_rfl) (by kernel_rfl) (by kernel_rfl) (by rfl) ?hy19 (fun _ _ _ => trivial) (fun hCl' => ?_)
  case hy19 => (intro w hSw; refine T.qVal ?_ hSw; (have fF2 := F2.out w hSw); (try dsimp only [List.getElem_toArray, List.getElem_cons_succ, List.getElem_cons_zero]); go_simp; try with_reducible rfl)
  simp only [Act.put, List.setIfInBounds_toArray, List.set_cons_zero, List.set_cons_succ]
  replace hCl := hCl'; clear hCl'
  refine T.qTake (i := 2) (d := (some 9)) (v := ?v20) rfl rfl (by kernel_rfl) (by decide) hCl (by kernel_rfl) (by kernel_rfl) (by kernel_rfl) (by rfl) ?hy20 (fun _ _ _ => trivial) (fun hCl' => ?_)
  case hy20 => (intro w hSw; refine T.qVal ?_ hSw; (have fF2 := F2.out w hSw); (try dsimp only [List.getElem_toArray, List.getElem_cons_succ, List.getElem_cons_zero]); go_simp; try with_reducible rfl)
  simp only [Act.put, List.setIfInBounds_toArray, List.set_cons_zero, List.set_cons_succ]
  replace hCl := hCl'; clear hCl'
  refine T.qTake (i := 5) (d := (some 12)) (v := ?v21) rfl rfl (by kernel_rfl) (by decide) hCl (by kernel_rfl) (by kernel_rfl) (by kernel_rfl) (by rfl) ?hy21 (fun _ _ _ => trivial) (fun hCl' => ?_)
  case hy21 => (intro w hSw; refine T.qVal ?_ hSw; (have fF2 := F2.out w hSw); (try dsimp only [List.getElem_toArray, List.getElem_cons_succ, List.getElem_cons_zero]); go_simp; try with_reducible rfl)
  simp only [Act.put, List.setIfInBounds_toArray, List.set_cons_zero, List.set_cons_succ]
  replace hCl := hCl'; clear hCl'
  refine T.qTake (i := 1) (d := (some 8)) (v := (KiV)) rfl rfl (by kernel_rfl) (by decide) hCl (by kernel_rfl) (by kernel_rfl) (by kernel_rfl) (by rfl) ?hy22 (fun _ _ _ => trivial) (fun hCl' => ?_)
  case hy22 => (intro w hSw; (have fF2 := F2.out w hSw); (try dsimp only [List.getElem_toArray, List.getElem_cons_succ, List.getElem_cons_zero]); go_simp; (refine (callsIn_wide.2 (kinds_any _)).mono ?_; rintro e w3 ⟨rfl, u3⟩; exact ⟨rfl, hSw.trans u3⟩))
  simp only [Act.put, List.setIfInBounds_toArray, List.set_cons_zero, List.set_cons_succ]
  replace hCl := hCl'; clear hCl'
  refine T.qTake (i := 3) (d := (some 10)) (v := ?v23) rfl rfl (by kernel_rfl) (by decide) hCl (by kernel_rfl) (by kernel_rfl) (by kernel_rfl) (by rfl) ?hy23 (fun _ _ _ => trivial) (fun hCl' => ?_)
  case hy23 => (intro w hSw; refine T.qVal ?_ hSw; (have fF2 := F2.out w hSw); (try dsimp only [List.getElem_toArray, List.getElem_cons_succ, List.getElem_cons_zero]); go_simp; try with_reducible rfl)
  simp only [Act.put, List.setIfInBounds_toArray, List.set_cons_zero, List.set_cons_succ]
  replace hCl := hCl'; clear hCl'
  refine T.qTake (i := 4) (d := (some 11)) (v := ?v24) rfl rfl (by kernel_rfl) (by decide) hCl (by kernel_rfl) (by kernel_rfl) (by kernel_rfl) (by rfl) ?hy24 (fun _ _ _ => trivial) (fun hCl' => ?_)
  case hy24 => (intro w hSw; refine T.qVal ?_ hSw; (have fF2 := F2.out w hSw); (try dsimp only [List.getElem_toArray, List.getElem_cons_succ, List.getElem_cons_zero]); go_simp; try with_reducible rfl)
  simp only [Act.put, List.setIfInBounds_toArray, List.set_cons_zero, List.set_cons_succ]
  replace hCl := hCl'; clear hCl'
  refine T.qTake (i := 6) (d := (some 13)) (v := ((.int .i64 N))) rfl rfl (by kernel_rfl) (by decide) hCl (by kernel_rfl) (by kernel_rfl) (by kernel_rfl) (by rfl) ?hy25 (fun _ _ _ => trivial) (fun hCl' => ?_)
  case hy25 => (intro w hSw; (have fF2 := F2.out w hSw); (try dsimp only [List.getElem_toArray, List.getElem_cons_succ, List.getElem_cons_zero]); go_simp; (refine (callsIn_wide.2 (nights_any (N := N) (bl := bl) (bh := bh) (rl := rl) (rh := rh) (aP := aP) (aQ := aQ) (aL := aL) (nP := nP) (cP := cP) (nQ := nQ) (cQ := cQ) (nL := nL) (cL := cL) (o := o) _)).mono ?_; rintro e w3 ⟨rfl, u3⟩; exact ⟨rfl, hSw.trans u3⟩))
  simp only [Act.put, List.setIfInBounds_toArray, List.set_cons_zero, List.set_cons_succ]
  replace hCl := hCl'; clear hCl'
  refine T.qTake (i := 7) (d := (some 14)) (v := ?v26) rfl rfl (by kernel_rfl) (by decide) hCl (by kernel_rfl) (by kernel_rfl) (by kernel_rfl) (by rfl) ?hy26 (fun _ _ _ => trivial) (fun hCl' => ?_)
  case hy26 => (intro w hSw; refine T.qVal ?_ hSw; (have fF2 := F2.out w hSw); (try dsimp only [List.getElem_toArray, List.getElem_cons_succ, List.getElem_cons_zero]); go_simp; try with_reducible rfl)
  simp only [Act.put, List.setIfInBounds_toArray, List.set_cons_zero, List.set_cons_succ]
  replace hCl := hCl'; clear hCl'
  refine T.qTake (i := 8) (d := (some 15)) (v := ((.bool q))) rfl rfl (by kernel_rfl) (by decide) hCl (by kernel_rfl) (by kernel_rfl) (by kernel_rfl) (by rfl) ?hy27 (fun _ _ _ => trivial) (fun hCl' => ?_)
  case hy27 => (intro w hSw; (have fF2 := F2.out w hSw); (try dsimp only [List.getElem_toArray, List.getElem_cons_succ, List.getElem_cons_zero]); go_simp; (refine (callsIn_wide.2 (HW.out _)).mono ?_; rintro e w3 ⟨rfl, rfl⟩; exact ⟨rfl, hSw⟩))
  simp only [Act.put, List.setIfInBounds_toArray, List.set_cons_zero, List.set_cons_succ]
  replace hCl := hCl'; clear hCl'
  refine T.tail_intro (by kernel_rfl) (fun Y1 hY1 => ?_)
  replace U := U.trans hY1
  replace kB := hY1.blk kB
  clear F2 hY1
  refine lastG (i := 9) (by kernel_rfl) rfl (by rfl) (by decide) (fun K hK => ?_)
  go_simp
  refine hK.out _ _ ?_
  clear hK K
  refine doneG (by kernel_rfl) ?_ _
  refine S.nrm_intro ?_
  go_wp2
  go_ret
  exact ⟨rfl, U⟩
theorem has_any {k : Int} (hk : k = 0 ∨ k = 1 ∨ k = 2) (n : Int) (w : World) (hP : nP ≤ 9223372036854775807) (hQ : nQ ≤ 9223372036854775807) (hN : -1000000 ≤ N ∧ N ≤ 1000000) : Calls Try.prog 92 #[(BkV N bl bh rl rh (.slice aP nP cP) (.slice aQ nQ cQ) (.slice aL nL cL) o), .int .i64 k, .int .i64 n] w fun e w' => e = .returned (.bool (inB n 0 (T.many nP nQ N k - 1))) ∧ Up w w' := by
  rcases hk with rfl | rfl | rfl
  · exact has_0 n w (by omega)
  · exact has_1 n w (by omega)
  · exact has_2 n w (by omega)
set_option maxRecDepth 100000 in
set_option maxHeartbeats 2000000 in
theorem isLook_any (h a b l u : Int) (w : World) (hP : nP ≤ 9223372036854775807) (hQ : nQ ≤ 9223372036854775807) (hN : -1000000 ≤ N ∧ N ≤ 1000000) : Calls Try.prog 88 #[(BkV N bl bh rl rh (.slice aP nP cP) (.slice aQ nQ cQ) (.slice aL nL cL) o), LkV h a b l u] w fun e w' => e = .returned (.bool (T.lookOk nP nQ N (h, a, b, l, u))) ∧ Up w w' := by
  have U := ((Up.refl w).alloc (.cells (BkC N bl bh rl rh (.slice aP nP cP) (.slice aQ nQ cQ) (.slice aL nL cL) o) 81)).alloc (.cells (LkC h a b l u) 63)
  have k0 := blk_keep (.cells (LkC h a b l u) 63) (blk_new w (.cells (BkC N bl bh rl rh (.slice aP nP cP) (.slice aQ nQ cQ) (.slice aL nL cL) o) 81) _ rfl)
  have k1 := blk_new (w.alloc (.cells (BkC N bl bh rl rh (.slice aP nP cP) (.slice aQ nQ cQ) (.slice aL nL cL) o) 81)) (.cells (LkC h a b l u) 63) (w.heap.size + 1) (by simp)
  have H1 := Lib.hid (fun w => has_any (N := N) (bl := bl) (bh := bh) (rl := rl) (rh := rh) (aP := aP) (aQ := aQ) (aL := aL) (nP := nP) (cP := cP) (nQ := nQ) (cQ := cQ) (nL := nL) (cL := cL) (o := o) (.inr (.inr rfl)) h w hP hQ hN)
  have H2 := Lib.hid (fun w => within_any a 0 1 w)
  have H3 := Lib.hid (fun (ha : a = 0 ∨ a = 1) w => has_any (N := N) (bl := bl) (bh := bh) (rl := rl) (rh := rh) (aP := aP) (aQ := aQ) (aL := aL) (nP := nP) (cP := cP) (nQ := nQ) (cQ := cQ) (nL := nL) (cL := cL) (o := o) (show a = 0 ∨ a = 1 ∨ a = 2 by omega) b w hP hQ hN)
  have H4 := Lib.hid (fun w => within_any l (-30000) 30000 w)
  have H5 := Lib.hid (fun w => within_any u 0 2000 w)
  have lt := blk_lt k1
  have lt0 := blk_lt k0
  have E := Lib.hid (show T.lookOk nP nQ N (h, a, b, l, u) = (inB h 0 (N - 1) && (inB a 0 1 && (inB b 0 (T.many nP nQ N a - 1) && (inB l (-30000) 30000 && inB u 0 2000)))) from rfl)
  have HA := Lib.hid (fun e : inB a 0 1 = true => show a = 0 ∨ a = 1 by have := inB_iff.1 e; omega)
  clear hN hP hQ
  generalize T.lookOk nP nQ N (h, a, b, l, u) = R at *
  obtain ⟨q1, h1⟩ : ∃ q, T.many nP nQ N 2 - 1 = q := ⟨_, rfl⟩
  have h1' : N - 1 = q1 := h1
  rw [h1] at H1
  rw [h1'] at E
  clear h1 h1'
  generalize inB h 0 q1 = q1 at *
  generalize inB a 0 1 = q2 at *
  generalize inB b 0 (T.many nP nQ N a - 1) = q3 at *
  generalize inB l (-30000) 30000 = q4 at *
  generalize inB u 0 2000 = q5 at *
  cases q1
  case false =>
    rw [Bool.false_and] at E
    go_enter Try.func88, Try.ntmps88
    go_wp2_with fail
    refine (H1.out _).mono ?_
    rintro e w1 ⟨rfl, u1⟩
    have U1 := U.trans u1
    clear u1 U
    go_wp2
    go_ret
    exact ⟨by rw [E.out]; rfl, U1⟩
  case true =>
  cases q2
  case false =>
    rw [Bool.true_and, Bool.false_and] at E
    go_enter Try.func88, Try.ntmps88
    go_wp2_with fail
    refine (H1.out _).mono ?_
    rintro e w1 ⟨rfl, u1⟩
    have U1 := U.trans u1
    replace k0 := u1.blk k0
    replace k1 := u1.blk k1
    clear u1 U
    go_wp2_with fail
    refine (H2.out _).mono ?_
    rintro e w2 ⟨rfl, rfl⟩
    go_wp2
    go_ret
    exact ⟨by rw [E.out]; rfl, U1⟩
  case true =>
  cases q3
  case false =>
    rw [Bool.true_and, Bool.true_and, Bool.false_and] at E
    have ha := HA.out rfl
    go_enter Try.func88, Try.ntmps88
    go_wp2_with fail
    refine (H1.out _).mono ?_
    rintro e w1 ⟨rfl, u1⟩
    have U1 := U.trans u1
    replace k0 := u1.blk k0
    replace k1 := u1.blk k1
    clear u1 U
    go_wp2_with fail
    refine (H2.out _).mono ?_
    rintro e w2 ⟨rfl, rfl⟩
    go_wp2_with fail
    refine (H3.out ha _).mono ?_
    rintro e w3 ⟨rfl, u3⟩
    have U3 := U1.trans u3
    clear u3 U1
    go_wp2
    go_ret
    exact ⟨by rw [E.out]; rfl, U3⟩
  case true =>
  cases q4
  case false =>
    rw [Bool.true_and, Bool.true_and, Bool.true_and, Bool.false_and] at E
    have ha := HA.out rfl
    go_enter Try.func88, Try.ntmps88
    go_wp2_with fail
    refine (H1.out _).mono ?_
    rintro e w1 ⟨rfl, u1⟩
    have U1 := U.trans u1
    replace k0 := u1.blk k0
    replace k1 := u1.blk k1
    clear u1 U
    go_wp2_with fail
    refine (H2.out _).mono ?_
    rintro e w2 ⟨rfl, rfl⟩
    go_wp2_with fail
    refine (H3.out ha _).mono ?_
    rintro e w3 ⟨rfl, u3⟩
    have U3 := U1.trans u3
    replace k0 := u3.blk k0
    replace k1 := u3.blk k1
    clear u3 U1
    go_wp2_with fail
    refine (H4.out _).mono ?_
    rintro e w4 ⟨rfl, rfl⟩
    go_wp2
    go_ret
    exact ⟨by rw [E.out]; rfl, U3⟩
  case true =>
    rw [Bool.true_and, Bool.true_and, Bool.true_and, Bool.true_and] at E
    have ha := HA.out rfl
    go_enter Try.func88, Try.ntmps88
    go_wp2_with fail
    refine (H1.out _).mono ?_
    rintro e w1 ⟨rfl, u1⟩
    have U1 := U.trans u1
    replace k0 := u1.blk k0
    replace k1 := u1.blk k1
    clear u1 U
    go_wp2_with fail
    refine (H2.out _).mono ?_
    rintro e w2 ⟨rfl, rfl⟩
    go_wp2_with fail
    refine (H3.out ha _).mono ?_
    rintro e w3 ⟨rfl, u3⟩
    have U3 := U1.trans u3
    replace k0 := u3.blk k0
    replace k1 := u3.blk k1
    clear u3 U1
    go_wp2_with fail
    refine (H4.out _).mono ?_
    rintro e w4 ⟨rfl, rfl⟩
    go_wp2_with fail
    refine (H5.out _).mono ?_
    rintro e w5 ⟨rfl, rfl⟩
    go_wp2
    go_ret
    exact ⟨by rw [E.out]; rfl, U3⟩

set_option maxRecDepth 100000 in
theorem allPer1_any (l h : Int) {B : Nat} {w : World}  (kB : mblk w B = some (.cells #[.func (.func 101) #[] #[]] 155 (0, 0))) : Calls Try.prog 121 #[SpV l h, .pointer (some ⟨B, 0, none⟩)] w fun e w' => e = .returned (.bool (!T.perOk (l, h))) ∧ Up w w' := by
  have U := (Up.refl w).alloc (.cells #[.int .i64 l, .int .i64 h] 23)
  have k0 := blk_new w (.cells #[.int .i64 l, .int .i64 h] 23) w.heap.size rfl
  have k1 := blk_keep (.cells #[.int .i64 l, .int .i64 h] 23) kB
  have lB := blk_lt kB
  have f0 := cellB k0
  have f1 := cellB k1
  have HL := Lib.hid (fun w => show Calls Try.prog 101 #[SpV l h] w fun e w' => e = .returned (.bool (T.perOk (l, h))) ∧ Up w w' from isPerson_any l h w)
  generalize T.perOk (l, h) = q at *
  go_enter Try.func121, Try.ntmps121
  go_wp2_with fail
  refine (HL.out _).mono ?_
  rintro e w1 ⟨rfl, u1⟩
  go_wp2
  go_ret
  exact ⟨rfl, U.trans u1⟩
set_option maxRecDepth 100000 in
set_option maxHeartbeats 1000000 in
theorem ifPer_any {xs : List (Int × Int)} {v : Value} {w : World}  (I : Tab 2 T.encS (0, 0) w v xs) {B : Nat} (kB : mblk w B = some (.cells #[.func (.func 101) #[] #[]] 155 (0, 0))) : Calls Try.prog 130 #[v, .func (.func 121) #[] #[.pointer (some ⟨B, 0, none⟩)]] w fun e w' => ∃ r : Int, e = .returned (.int .i64 r) ∧ decide (r ≥ 0) = !xs.all (T.perOk) ∧ Up w w' := by
  obtain ⟨a0, c0, rfl, _, hl, hm⟩ := I.is
  have HI := Lib.hid I
  have HB := Lib.hid (fun w' (up : Up w w') l h => allPer1_any  l h  (up.blk kB))
  clear hm I kB
  go_enter Try.func130, Try.ntmps130
  go_wp2_with fail
  go_loopw [8] (fun i wr => ∃ k : Nat, k ≤ xs.length ∧ i = .int .i64 k ∧ Hid (xs.all (T.perOk) = (xs.drop k).all (T.perOk)) ∧ Up w wr) (fun i _ => xs.length - (intOf i).toNat)
  case atStart => exact ⟨0, Nat.zero_le _, rfl, rfl, Up.refl _⟩
  case round =>
    obtain ⟨k, hk, rfl, hD, U⟩ := hrel
    by_cases hlt : k < xs.length
    · obtain ⟨a1, c1, e1, _, _, hm⟩ := (HI.out.up U).is
      injection e1 with e1 e2 e3
      subst e1 e3
      clear e2
      obtain ⟨g, off, rfl, gl, hc⟩ := hm (by omega)
      have x0 := hc k hlt 0 (by omega)
      have x1 := hc k hlt 1 (by omega)
      have st := all_drop' (d := (0, 0)) (p := T.perOk) hlt
      generalize xs.getD k (0, 0) = z at *
      obtain ⟨l, h⟩ := z
      simp only [T.encS, Nat.add_zero] at x0 x1
      have HC := Lib.hid (HB.out wr U l h)
      clear hc hm
      cases hq : T.perOk (l, h) with
      | true =>
        rw [hq, Bool.true_and] at st
        have h3 := Lib.hid (hD.out.trans st)
        rw [hq, Bool.not_true] at HC
        clear st hD hq
        go_wp2_with fail
        refine HC.out.mono ?_
        rintro e w1 ⟨rfl, u1⟩
        go_wp2
        go_roundw
        case rel => exact ⟨k + 1, by omega, by go_num, h3, U.trans u1⟩
        case measure => simp [intOf]; omega
      | false =>
        rw [hq, Bool.false_and] at st
        have h3 := Lib.hid (hD.out.trans st)
        rw [hq, Bool.not_false] at HC
        clear st hD hq
        go_wp2_with fail
        refine HC.out.mono ?_
        rintro e w1 ⟨rfl, u1⟩
        go_wp2
        go_ret
        exact ⟨_, rfl, (by rw [h3.out]; simp : decide ((k : Int) ≥ 0) = _), U.trans u1⟩
    · have h3 := hD.out
      rw [List.drop_eq_nil_of_le (by omega)] at h3
      have h4 := Lib.hid h3
      clear h3
      go_wp2
      go_ret
      exact ⟨-1, rfl, by rw [h4.out]; simp, U⟩
set_option maxRecDepth 100000 in
theorem cfPer_any {xs : List (Int × Int)} {v : Value} {w : World}  (I : Tab 2 T.encS (0, 0) w v xs) {B : Nat} (kB : mblk w B = some (.cells #[.func (.func 101) #[] #[]] 155 (0, 0))) : Calls Try.prog 120 #[v, .func (.func 121) #[] #[.pointer (some ⟨B, 0, none⟩)]] w fun e w' => e = .returned (.bool (!xs.all (T.perOk))) ∧ Up w w' := by
  have HX := Lib.hid (ifPer_any  I kB)
  generalize (!xs.all (T.perOk)) = q at *
  clear I kB
  go_enter Try.func120, Try.ntmps120
  go_wp2_with fail
  refine HX.out.mono ?_
  rintro e w1 ⟨r, rfl, hr, u1⟩
  go_wp2
  go_ret
  exact ⟨rfl, u1⟩
set_option maxRecDepth 100000 in
theorem allPer_any {xs : List (Int × Int)} {v : Value} {w : World}  (I : Tab 2 T.encS (0, 0) w v xs) (m : Nat) : Calls Try.prog 100 #[v, .int .i64 m, .func (.func 101) #[] #[]] w fun e w' => e = .returned (.bool (decide (xs.length ≤ m) && xs.all (T.perOk))) ∧ Up w w' := by
  have U := (Up.refl w).alloc (.cells #[.func (.func 101) #[] #[]] 155)
  have HX := Lib.hid (cfPer_any  (I.up U) (blk_new w (.cells #[.func (.func 101) #[] #[]] 155) _ rfl))
  obtain ⟨a0, c0, rfl, _, hl, _⟩ := I.is
  clear I
  by_cases h10 : xs.length ≤ m
  · rw [decide_eq_true h10, Bool.true_and]
    generalize xs.all (T.perOk) = q at *
    have g : decide (xs.length ≤ m) = true := decide_eq_true h10
    have g' : (xs.length : Int) ≤ m := by omega
    go_enter Try.func100, Try.ntmps100
    go_wp2_with fail
    refine HX.out.mono ?_
    rintro e w1 ⟨rfl, u1⟩
    go_wp2
    go_ret
    exact ⟨rfl, U.trans u1⟩
  · rw [decide_eq_false h10, Bool.false_and]
    have g : decide (xs.length ≤ m) = false := decide_eq_false h10
    have g' : ¬ (xs.length : Int) ≤ m := by omega
    clear HX
    go_enter Try.func100, Try.ntmps100
    go_wp2
    go_ret
    exact ⟨rfl, U⟩

set_option maxRecDepth 100000 in
theorem allPth1_any (l h : Int) {B : Nat} {w : World}  (kB : mblk w B = some (.cells #[.func (.func 102) #[] #[]] 155 (0, 0))) : Calls Try.prog 121 #[SpV l h, .pointer (some ⟨B, 0, none⟩)] w fun e w' => e = .returned (.bool (!T.pathOk (l, h))) ∧ Up w w' := by
  have U := (Up.refl w).alloc (.cells #[.int .i64 l, .int .i64 h] 23)
  have k0 := blk_new w (.cells #[.int .i64 l, .int .i64 h] 23) w.heap.size rfl
  have k1 := blk_keep (.cells #[.int .i64 l, .int .i64 h] 23) kB
  have lB := blk_lt kB
  have f0 := cellB k0
  have f1 := cellB k1
  have HL := Lib.hid (fun w => show Calls Try.prog 102 #[SpV l h] w fun e w' => e = .returned (.bool (T.pathOk (l, h))) ∧ Up w w' from isPath_any l h w)
  generalize T.pathOk (l, h) = q at *
  go_enter Try.func121, Try.ntmps121
  go_wp2_with fail
  refine (HL.out _).mono ?_
  rintro e w1 ⟨rfl, u1⟩
  go_wp2
  go_ret
  exact ⟨rfl, U.trans u1⟩
set_option maxRecDepth 100000 in
set_option maxHeartbeats 1000000 in
theorem ifPth_any {xs : List (Int × Int)} {v : Value} {w : World}  (I : Tab 2 T.encS (0, 0) w v xs) {B : Nat} (kB : mblk w B = some (.cells #[.func (.func 102) #[] #[]] 155 (0, 0))) : Calls Try.prog 130 #[v, .func (.func 121) #[] #[.pointer (some ⟨B, 0, none⟩)]] w fun e w' => ∃ r : Int, e = .returned (.int .i64 r) ∧ decide (r ≥ 0) = !xs.all (T.pathOk) ∧ Up w w' := by
  obtain ⟨a0, c0, rfl, _, hl, hm⟩ := I.is
  have HI := Lib.hid I
  have HB := Lib.hid (fun w' (up : Up w w') l h => allPth1_any  l h  (up.blk kB))
  clear hm I kB
  go_enter Try.func130, Try.ntmps130
  go_wp2_with fail
  go_loopw [8] (fun i wr => ∃ k : Nat, k ≤ xs.length ∧ i = .int .i64 k ∧ Hid (xs.all (T.pathOk) = (xs.drop k).all (T.pathOk)) ∧ Up w wr) (fun i _ => xs.length - (intOf i).toNat)
  case atStart => exact ⟨0, Nat.zero_le _, rfl, rfl, Up.refl _⟩
  case round =>
    obtain ⟨k, hk, rfl, hD, U⟩ := hrel
    by_cases hlt : k < xs.length
    · obtain ⟨a1, c1, e1, _, _, hm⟩ := (HI.out.up U).is
      injection e1 with e1 e2 e3
      subst e1 e3
      clear e2
      obtain ⟨g, off, rfl, gl, hc⟩ := hm (by omega)
      have x0 := hc k hlt 0 (by omega)
      have x1 := hc k hlt 1 (by omega)
      have st := all_drop' (d := (0, 0)) (p := T.pathOk) hlt
      generalize xs.getD k (0, 0) = z at *
      obtain ⟨l, h⟩ := z
      simp only [T.encS, Nat.add_zero] at x0 x1
      have HC := Lib.hid (HB.out wr U l h)
      clear hc hm
      cases hq : T.pathOk (l, h) with
      | true =>
        rw [hq, Bool.true_and] at st
        have h3 := Lib.hid (hD.out.trans st)
        rw [hq, Bool.not_true] at HC
        clear st hD hq
        go_wp2_with fail
        refine HC.out.mono ?_
        rintro e w1 ⟨rfl, u1⟩
        go_wp2
        go_roundw
        case rel => exact ⟨k + 1, by omega, by go_num, h3, U.trans u1⟩
        case measure => simp [intOf]; omega
      | false =>
        rw [hq, Bool.false_and] at st
        have h3 := Lib.hid (hD.out.trans st)
        rw [hq, Bool.not_false] at HC
        clear st hD hq
        go_wp2_with fail
        refine HC.out.mono ?_
        rintro e w1 ⟨rfl, u1⟩
        go_wp2
        go_ret
        exact ⟨_, rfl, (by rw [h3.out]; simp : decide ((k : Int) ≥ 0) = _), U.trans u1⟩
    · have h3 := hD.out
      rw [List.drop_eq_nil_of_le (by omega)] at h3
      have h4 := Lib.hid h3
      clear h3
      go_wp2
      go_ret
      exact ⟨-1, rfl, by rw [h4.out]; simp, U⟩
set_option maxRecDepth 100000 in
theorem cfPth_any {xs : List (Int × Int)} {v : Value} {w : World}  (I : Tab 2 T.encS (0, 0) w v xs) {B : Nat} (kB : mblk w B = some (.cells #[.func (.func 102) #[] #[]] 155 (0, 0))) : Calls Try.prog 120 #[v, .func (.func 121) #[] #[.pointer (some ⟨B, 0, none⟩)]] w fun e w' => e = .returned (.bool (!xs.all (T.pathOk))) ∧ Up w w' := by
  have HX := Lib.hid (ifPth_any  I kB)
  generalize (!xs.all (T.pathOk)) = q at *
  clear I kB
  go_enter Try.func120, Try.ntmps120
  go_wp2_with fail
  refine HX.out.mono ?_
  rintro e w1 ⟨r, rfl, hr, u1⟩
  go_wp2
  go_ret
  exact ⟨rfl, u1⟩
set_option maxRecDepth 100000 in
theorem allPth_any {xs : List (Int × Int)} {v : Value} {w : World}  (I : Tab 2 T.encS (0, 0) w v xs) (m : Nat) : Calls Try.prog 100 #[v, .int .i64 m, .func (.func 102) #[] #[]] w fun e w' => e = .returned (.bool (decide (xs.length ≤ m) && xs.all (T.pathOk))) ∧ Up w w' := by
  have U := (Up.refl w).alloc (.cells #[.func (.func 102) #[] #[]] 155)
  have HX := Lib.hid (cfPth_any  (I.up U) (blk_new w (.cells #[.func (.func 102) #[] #[]] 155) _ rfl))
  obtain ⟨a0, c0, rfl, _, hl, _⟩ := I.is
  clear I
  by_cases h10 : xs.length ≤ m
  · rw [decide_eq_true h10, Bool.true_and]
    generalize xs.all (T.pathOk) = q at *
    have g : decide (xs.length ≤ m) = true := decide_eq_true h10
    have g' : (xs.length : Int) ≤ m := by omega
    go_enter Try.func100, Try.ntmps100
    go_wp2_with fail
    refine HX.out.mono ?_
    rintro e w1 ⟨rfl, u1⟩
    go_wp2
    go_ret
    exact ⟨rfl, U.trans u1⟩
  · rw [decide_eq_false h10, Bool.false_and]
    have g : decide (xs.length ≤ m) = false := decide_eq_false h10
    have g' : ¬ (xs.length : Int) ≤ m := by omega
    clear HX
    go_enter Try.func100, Try.ntmps100
    go_wp2
    go_ret
    exact ⟨rfl, U⟩

set_option maxRecDepth 100000 in
theorem allLok1_any (h a b l u : Int) {B : Nat} {w : World} (hP : nP ≤ 9223372036854775807) (hQ : nQ ≤ 9223372036854775807) (hN : -1000000 ≤ N ∧ N ≤ 1000000) (kB : mblk w B = some (.cells #[.func (.func 88) #[(BkV N bl bh rl rh (.slice aP nP cP) (.slice aQ nQ cQ) (.slice aL nL cL) o)] #[]] 126 (0, 0))) : Calls Try.prog 104 #[LkV h a b l u, .pointer (some ⟨B, 0, none⟩)] w fun e w' => e = .returned (.bool (!T.lookOk nP nQ N (h, a, b, l, u))) ∧ Up w w' := by
  have U := (Up.refl w).alloc (.cells (LkC h a b l u) 63)
  have k0 := blk_new w (.cells (LkC h a b l u) 63) w.heap.size rfl
  have k1 := blk_keep (.cells (LkC h a b l u) 63) kB
  have lB := blk_lt kB
  have f0 := cellB k0
  have f1 := cellB k1
  have HL := Lib.hid (fun w => show Calls Try.prog 88 #[(BkV N bl bh rl rh (.slice aP nP cP) (.slice aQ nQ cQ) (.slice aL nL cL) o), LkV h a b l u] w fun e w' => e = .returned (.bool (T.lookOk nP nQ N (h, a, b, l, u))) ∧ Up w w' from isLook_any (N := N) (bl := bl) (bh := bh) (rl := rl) (rh := rh) (aP := aP) (aQ := aQ) (aL := aL) (nP := nP) (cP := cP) (nQ := nQ) (cQ := cQ) (nL := nL) (cL := cL) (o := o) h a b l u w hP hQ hN)
  generalize T.lookOk nP nQ N (h, a, b, l, u) = q at *
  go_enter Try.func104, Try.ntmps104
  go_wp2_with fail
  refine (HL.out _).mono ?_
  rintro e w1 ⟨rfl, u1⟩
  go_wp2
  go_ret
  exact ⟨rfl, U.trans u1⟩
set_option maxRecDepth 100000 in
set_option maxHeartbeats 1000000 in
theorem ifLok_any {xs : List T.T5} {v : Value} {w : World} (hP : nP ≤ 9223372036854775807) (hQ : nQ ≤ 9223372036854775807) (hN : -1000000 ≤ N ∧ N ≤ 1000000) (I : Tab 5 T.encL (0, 0, 0, 0, 0) w v xs) {B : Nat} (kB : mblk w B = some (.cells #[.func (.func 88) #[(BkV N bl bh rl rh (.slice aP nP cP) (.slice aQ nQ cQ) (.slice aL nL cL) o)] #[]] 126 (0, 0))) : Calls Try.prog 122 #[v, .func (.func 104) #[] #[.pointer (some ⟨B, 0, none⟩)]] w fun e w' => ∃ r : Int, e = .returned (.int .i64 r) ∧ decide (r ≥ 0) = !xs.all (T.lookOk nP nQ N) ∧ Up w w' := by
  obtain ⟨a0, c0, rfl, _, hl, hm⟩ := I.is
  have HI := Lib.hid I
  have HB := Lib.hid (fun w' (up : Up w w') h a b l u => allLok1_any (N := N) (bl := bl) (bh := bh) (rl := rl) (rh := rh) (aP := aP) (aQ := aQ) (aL := aL) (nP := nP) (cP := cP) (nQ := nQ) (cQ := cQ) (nL := nL) (cL := cL) (o := o) h a b l u hP hQ hN (up.blk kB))
  clear hm I kB
  go_enter Try.func122, Try.ntmps122
  go_wp2_with fail
  go_loopw [8] (fun i wr => ∃ k : Nat, k ≤ xs.length ∧ i = .int .i64 k ∧ Hid (xs.all (T.lookOk nP nQ N) = (xs.drop k).all (T.lookOk nP nQ N)) ∧ Up w wr) (fun i _ => xs.length - (intOf i).toNat)
  case atStart => exact ⟨0, Nat.zero_le _, rfl, rfl, Up.refl _⟩
  case round =>
    obtain ⟨k, hk, rfl, hD, U⟩ := hrel
    by_cases hlt : k < xs.length
    · obtain ⟨a1, c1, e1, _, _, hm⟩ := (HI.out.up U).is
      injection e1 with e1 e2 e3
      subst e1 e3
      clear e2
      obtain ⟨g, off, rfl, gl, hc⟩ := hm (by omega)
      have x0 := hc k hlt 0 (by omega)
      have x1 := hc k hlt 1 (by omega)
      have x2 := hc k hlt 2 (by omega)
      have x3 := hc k hlt 3 (by omega)
      have x4 := hc k hlt 4 (by omega)
      have st := all_drop' (d := (0, 0, 0, 0, 0)) (p := T.lookOk nP nQ N) hlt
      generalize xs.getD k (0, 0, 0, 0, 0) = z at *
      obtain ⟨h, a, b, l, u⟩ := z
      simp only [T.encL, Nat.add_zero] at x0 x1 x2 x3 x4
      have HC := Lib.hid (HB.out wr U h a b l u)
      clear hc hm
      cases hq : T.lookOk nP nQ N (h, a, b, l, u) with
      | true =>
        rw [hq, Bool.true_and] at st
        have h3 := Lib.hid (hD.out.trans st)
        rw [hq, Bool.not_true] at HC
        clear st hD hq
        go_wp2_with fail
        refine HC.out.mono ?_
        rintro e w1 ⟨rfl, u1⟩
        go_wp2
        go_roundw
        case rel => exact ⟨k + 1, by omega, by go_num, h3, U.trans u1⟩
        case measure => simp [intOf]; omega
      | false =>
        rw [hq, Bool.false_and] at st
        have h3 := Lib.hid (hD.out.trans st)
        rw [hq, Bool.not_false] at HC
        clear st hD hq
        go_wp2_with fail
        refine HC.out.mono ?_
        rintro e w1 ⟨rfl, u1⟩
        go_wp2
        go_ret
        exact ⟨_, rfl, (by rw [h3.out]; simp : decide ((k : Int) ≥ 0) = _), U.trans u1⟩
    · have h3 := hD.out
      rw [List.drop_eq_nil_of_le (by omega)] at h3
      have h4 := Lib.hid h3
      clear h3
      go_wp2
      go_ret
      exact ⟨-1, rfl, by rw [h4.out]; simp, U⟩
set_option maxRecDepth 100000 in
theorem cfLok_any {xs : List T.T5} {v : Value} {w : World} (hP : nP ≤ 9223372036854775807) (hQ : nQ ≤ 9223372036854775807) (hN : -1000000 ≤ N ∧ N ≤ 1000000) (I : Tab 5 T.encL (0, 0, 0, 0, 0) w v xs) {B : Nat} (kB : mblk w B = some (.cells #[.func (.func 88) #[(BkV N bl bh rl rh (.slice aP nP cP) (.slice aQ nQ cQ) (.slice aL nL cL) o)] #[]] 126 (0, 0))) : Calls Try.prog 103 #[v, .func (.func 104) #[] #[.pointer (some ⟨B, 0, none⟩)]] w fun e w' => e = .returned (.bool (!xs.all (T.lookOk nP nQ N))) ∧ Up w w' := by
  have HX := Lib.hid (ifLok_any hP hQ hN I kB)
  generalize (!xs.all (T.lookOk nP nQ N)) = q at *
  clear I kB
  go_enter Try.func103, Try.ntmps103
  go_wp2_with fail
  refine HX.out.mono ?_
  rintro e w1 ⟨r, rfl, hr, u1⟩
  go_wp2
  go_ret
  exact ⟨rfl, u1⟩
set_option maxRecDepth 100000 in
theorem allLok_any {xs : List T.T5} {v : Value} {w : World} (hP : nP ≤ 9223372036854775807) (hQ : nQ ≤ 9223372036854775807) (hN : -1000000 ≤ N ∧ N ≤ 1000000) (I : Tab 5 T.encL (0, 0, 0, 0, 0) w v xs) (m : Nat) : Calls Try.prog 87 #[v, .int .i64 m, .func (.func 88) #[(BkV N bl bh rl rh (.slice aP nP cP) (.slice aQ nQ cQ) (.slice aL nL cL) o)] #[]] w fun e w' => e = .returned (.bool (decide (xs.length ≤ m) && xs.all (T.lookOk nP nQ N))) ∧ Up w w' := by
  have U := (Up.refl w).alloc (.cells #[.func (.func 88) #[(BkV N bl bh rl rh (.slice aP nP cP) (.slice aQ nQ cQ) (.slice aL nL cL) o)] #[]] 126)
  have HX := Lib.hid (cfLok_any hP hQ hN (I.up U) (blk_new w (.cells #[.func (.func 88) #[(BkV N bl bh rl rh (.slice aP nP cP) (.slice aQ nQ cQ) (.slice aL nL cL) o)] #[]] 126) _ rfl))
  obtain ⟨a0, c0, rfl, _, hl, _⟩ := I.is
  clear I
  by_cases h10 : xs.length ≤ m
  · rw [decide_eq_true h10, Bool.true_and]
    generalize xs.all (T.lookOk nP nQ N) = q at *
    have g : decide (xs.length ≤ m) = true := decide_eq_true h10
    have g' : (xs.length : Int) ≤ m := by omega
    go_enter Try.func87, Try.ntmps87
    go_wp2_with fail
    refine HX.out.mono ?_
    rintro e w1 ⟨rfl, u1⟩
    go_wp2
    go_ret
    exact ⟨rfl, U.trans u1⟩
  · rw [decide_eq_false h10, Bool.false_and]
    have g : decide (xs.length ≤ m) = false := decide_eq_false h10
    have g' : ¬ (xs.length : Int) ≤ m := by omega
    clear HX
    go_enter Try.func87, Try.ntmps87
    go_wp2
    go_ret
    exact ⟨rfl, U⟩
end
section
variable {N bl bh rl rh : Int} {aP aQ aL : Option Addr} {nP cP nQ cQ nL cL : Nat} {o : Nat → Bool} {ps qs : List (Int × Int)}
set_option maxRecDepth 100000 in
set_option maxHeartbeats 2000000 in
theorem hasNights_any (w : World) : Calls Try.prog 85 #[(BkV N bl bh rl rh (.slice aP nP cP) (.slice aQ nQ cQ) (.slice aL nL cL) o)] w fun e w' => e = .returned (.bool (T.nightsOk N bl bh rl rh)) ∧ Up w w' := by
  have U := (Up.refl w).alloc (.cells (BkC N bl bh rl rh (.slice aP nP cP) (.slice aQ nQ cQ) (.slice aL nL cL) o) 81)
  have k0 := blk_new w (.cells (BkC N bl bh rl rh (.slice aP nP cP) (.slice aQ nQ cQ) (.slice aL nL cL) o) 81) _ rfl
  have H1 := Lib.hid (fun w => within_any N 1 8 w)
  have H2 := Lib.hid (fun w => isSpan_any bl bh (-20000) 20000 w)
  have H3 := Lib.hid (fun w => isSpan_any rl rh (-1000) 1000 w)
  have lt := blk_lt k0
  have E := Lib.hid (show T.nightsOk N bl bh rl rh = (inB N 1 8 && (S.spanOk bl bh (-20000) 20000 && S.spanOk rl rh (-1000) 1000)) from rfl)
  generalize T.nightsOk N bl bh rl rh = R at *
  generalize inB N 1 8 = q1 at *
  generalize S.spanOk bl bh (-20000) 20000 = q2 at *
  generalize S.spanOk rl rh (-1000) 1000 = q3 at *
  cases q1
  case false =>
    rw [Bool.false_and] at E
    go_enter Try.func85, Try.ntmps85
    go_wp2_with fail
    refine (H1.out _).mono ?_
    rintro e w1 ⟨rfl, rfl⟩
    go_wp2
    go_ret
    exact ⟨by rw [E.out]; rfl, U⟩
  case true =>
  cases q2
  case false =>
    rw [Bool.true_and, Bool.false_and] at E
    go_enter Try.func85, Try.ntmps85
    go_wp2_with fail
    refine (H1.out _).mono ?_
    rintro e w1 ⟨rfl, rfl⟩
    go_wp2_with fail
    refine (H2.out _).mono ?_
    rintro e w2 ⟨rfl, u2⟩
    have U2 := U.trans u2
    clear u2 U
    go_wp2
    go_ret
    exact ⟨by rw [E.out]; rfl, U2⟩
  case true =>
    rw [Bool.true_and, Bool.true_and] at E
    go_enter Try.func85, Try.ntmps85
    go_wp2_with fail
    refine (H1.out _).mono ?_
    rintro e w1 ⟨rfl, rfl⟩
    go_wp2_with fail
    refine (H2.out _).mono ?_
    rintro e w2 ⟨rfl, u2⟩
    have U2 := U.trans u2
    replace k0 := u2.blk k0
    clear u2 U
    go_wp2_with fail
    refine (H3.out _).mono ?_
    rintro e w3 ⟨rfl, u3⟩
    have U3 := U2.trans u3
    clear u3 U2
    go_wp2
    go_ret
    exact ⟨by rw [E.out]; rfl, U3⟩
set_option maxRecDepth 100000 in
set_option maxHeartbeats 2000000 in
theorem hasOthers_any {w : World} (I : Sps w (.slice aP nP cP) ps) (J : Sps w (.slice aQ nQ cQ) qs) : Calls Try.prog 86 #[(BkV N bl bh rl rh (.slice aP nP cP) (.slice aQ nQ cQ) (.slice aL nL cL) o)] w fun e w' => e = .returned (.bool (T.othersOk ps qs)) ∧ Up w w' := by
  have U := (Up.refl w).alloc (.cells (BkC N bl bh rl rh (.slice aP nP cP) (.slice aQ nQ cQ) (.slice aL nL cL) o) 81)
  have k0 := blk_new w (.cells (BkC N bl bh rl rh (.slice aP nP cP) (.slice aQ nQ cQ) (.slice aL nL cL) o) 81) _ rfl
  have H1 := Lib.hid (fun w' (up : Up w w') => allPer_any (I.up up) 4)
  have H2 := Lib.hid (fun w' (up : Up w w') => allPth_any (J.up up) 4)
  have lt := blk_lt k0
  have E := Lib.hid (show T.othersOk ps qs = ((decide (ps.length ≤ 4) && ps.all T.perOk) && (decide (qs.length ≤ 4) && qs.all T.pathOk)) from rfl)
  generalize T.othersOk ps qs = R at *
  generalize (decide (ps.length ≤ 4) && ps.all T.perOk) = q1 at *
  generalize (decide (qs.length ≤ 4) && qs.all T.pathOk) = q2 at *
  clear I J
  cases q1
  case false =>
    rw [Bool.false_and] at E
    go_enter Try.func86, Try.ntmps86
    go_wp2_with fail
    refine (H1.out _ U).mono ?_
    rintro e w1 ⟨rfl, u1⟩
    have U1 := U.trans u1
    clear u1 U
    go_wp2
    go_ret
    exact ⟨by rw [E.out]; rfl, U1⟩
  case true =>
    rw [Bool.true_and] at E
    go_enter Try.func86, Try.ntmps86
    go_wp2_with fail
    refine (H1.out _ U).mono ?_
    rintro e w1 ⟨rfl, u1⟩
    have U1 := U.trans u1
    replace k0 := u1.blk k0
    clear u1 U
    go_wp2_with fail
    refine (H2.out _ U1).mono ?_
    rintro e w2 ⟨rfl, u2⟩
    have U2 := U1.trans u2
    clear u2 U1
    go_wp2
    go_ret
    exact ⟨by rw [E.out]; rfl, U2⟩
end

end Go.Proofs.Ytlpkheoljbdajaa
