import Derived.Test.YtcmdaiklkdeanaaMap
/- The contract of learn. -/
namespace Go.Proofs.Ytcmdaiklkdeanaa
open Go.RowKit

/-- how a span comes to what is known -/
def T.joinB (a : Option (Int × Int)) (s : Int × Int) : Int × Int := match a with | none => s | some b => (max b.1 s.1, min b.2 s.2)
def T.joinA (a : Option (Int × Int)) (s : Int × Int) : Int × Int := match a with | none => s | some b => (b.1 + s.1, b.2 + s.2)
theorem up_grown {w w' : World} (h : Up w w') (r : Option Nat) : w.grownBy w' r := ⟨h.os, h.tape, h.output, h.size, fun k hk _ => Below.block h k hk⟩
theorem grown_trans {a b c : World} {r : Option Nat} (h : a.grownBy b r) (k : b.grownBy c r) : a.grownBy c r := ⟨k.os.trans h.os, k.tape.trans h.tape, k.output.trans h.output, Nat.le_trans h.size k.size, fun i hi hr => (k.block i (Nat.lt_of_lt_of_le hi h.size) hr).trans (h.block i hi hr)⟩
set_option maxRecDepth 100000 in
set_option maxHeartbeats 1000000 in
theorem learn_both_no {w : World} {m : Nat} {D : List (Int × Int)} {g : Int × Int → Nat} {K : Int × Int → Int × Int → Option (Int × Int)} {N : Nat} (h : T.Know w m D g K N) (hN : N < 100000) {x y s : Int × Int} (hx : x ∈ D) (hy : T.in64 y) (hk : K x y = none) :
    Calls Try.prog 101 #[.map (some m), .agg #[.int .i64 x.1, .int .i64 x.2, .int .i64 y.1, .int .i64 y.2, .int .i64 s.1, .int .i64 s.2], .func (.func 108) #[] #[]] w fun e w' => e = .returned (.tuple #[]) ∧ T.Know w' m D g (T.put2 K x y (T.joinB (K x y) s)) (N + 1) ∧ w.grownBy w' (some (g x)) := by
  have U0 := ((Up.refl w).alloc (.cells #[.int .i64 x.1, .int .i64 x.2, .int .i64 y.1, .int .i64 y.2, .int .i64 s.1, .int .i64 s.2] 125)).alloc (.cells #[.int .i64 s.1, .int .i64 s.2] 34)
  have kt := blk_keep (.cells #[.int .i64 s.1, .int .i64 s.2] 34) (blk_new w (.cells #[.int .i64 x.1, .int .i64 x.2, .int .i64 y.1, .int .i64 y.2, .int .i64 s.1, .int .i64 s.2] 125) _ rfl)
  have ks := blk_new (w.alloc (.cells #[.int .i64 x.1, .int .i64 x.2, .int .i64 y.1, .int .i64 y.2, .int .i64 s.1, .int .i64 s.2] 125)) (.cells #[.int .i64 s.1, .int .i64 s.2] 34) (w.heap.size + 1) (by simp)
  have HO := Lib.hid (fun w' (u : Up w w') => (h.up u).out.look (h.dom x hx) (b := g x) (by simp [hx]))
  have HI := Lib.hid (fun w' (u : Up w w') => ((h.up u).inn x hx).no hy hk)
  have HP := Lib.hid (fun w' (u : Up w w') (v : Int × Int) => ((h.up u).inn x hx).put (by omega) hy v)
  have HV := Lib.hid (show T.joinB (K x y) s = (s.1, s.2) by rw [hk]; rfl)
  have HH := Lib.hid h
  have HX := Lib.hid hx
  clear h hk
  clear hx hN hy
  go_enter Try.func101, Try.ntmps101
  go_wp2_with fail
  refine wp_region_held_drew (S := fun w' => Up w w' ∧ mblk w' w.heap.size = some (.cells #[.int .i64 x.1, .int .i64 x.2, .int .i64 y.1, .int .i64 y.2, .int .i64 s.1, .int .i64 s.2] 125 (0, 0)) ∧ mblk w' (w.heap.size + 1) = some (.cells #[.int .i64 s.1, .int .i64 s.2] 34 (0, 0))) (by kernel_rfl) ⟨U0.drew, by rw [blk_drew]; exact kt, by rw [blk_drew]; exact ks⟩ (fun hHeld => ?_)
  clear U0 kt ks
  refine takeH (i := 0) (d := (some 12)) (v := ?v1) rfl rfl (by kernel_rfl) (by kernel_rfl) (by kernel_rfl) (fun _ _ _ h => h) (by rfl) ?hy1 (by assumption) ?_
  case hy1 => ((intro w hSw; (try dsimp only at hSw); (try go_split_ands); go_simp); try with_reducible rfl)
  simp only [Act.put, List.setIfInBounds_toArray, List.set_cons_zero, List.set_cons_succ]
  refine takeH (i := 1) (d := (some 13)) (v := ?v2) rfl rfl (by kernel_rfl) (by kernel_rfl) (by kernel_rfl) (fun _ _ _ h => h) (by rfl) ?hy2 (by assumption) ?_
  case hy2 => ((intro w hSw; (try dsimp only at hSw); (try go_split_ands); go_simp); try with_reducible rfl)
  simp only [Act.put, List.setIfInBounds_toArray, List.set_cons_zero, List.set_cons_succ]
  refine takeH (i := 4) (d := (some 16)) (v := ?v3) rfl rfl (by kernel_rfl) (by kernel_rfl) (by kernel_rfl) (fun _ _ _ h => h) (by rfl) ?hy3 (by assumption) ?_
  case hy3 => ((intro w hSw; (try dsimp only at hSw); (try go_split_ands); go_simp); try with_reducible rfl)
  simp only [Act.put, List.setIfInBounds_toArray, List.set_cons_zero, List.set_cons_succ]
  refine takeH (i := 2) (d := (some 14)) (v := ?v4) rfl rfl (by kernel_rfl) (by kernel_rfl) (by kernel_rfl) (fun _ _ _ h => h) (by rfl) ?hy4 (by assumption) ?_
  case hy4 => ((intro w hSw; (try dsimp only at hSw); (try go_split_ands); go_simp); try with_reducible rfl)
  simp only [Act.put, List.setIfInBounds_toArray, List.set_cons_zero, List.set_cons_succ]
  refine takeH (i := 5) (d := (some 17)) (v := ?v5) rfl rfl (by kernel_rfl) (by kernel_rfl) (by kernel_rfl) (fun _ _ _ h => h) (by rfl) ?hy5 (by assumption) ?_
  case hy5 => ((intro w hSw; (try dsimp only at hSw); (try go_split_ands); go_simp); try with_reducible rfl)
  simp only [Act.put, List.setIfInBounds_toArray, List.set_cons_zero, List.set_cons_succ]
  refine takeH (i := 3) (d := (some 15)) (v := .map (some (g x))) rfl rfl (by kernel_rfl) (by kernel_rfl) (by kernel_rfl) (fun _ _ _ h => h) (by rfl) ?hl3 (by assumption) ?_
  case hl3 => (intro w3 hSw; have q := HO.out w3 hSw.1; go_simp)
  simp only [Act.put, List.setIfInBounds_toArray, List.set_cons_zero, List.set_cons_succ]
  refine takeH (i := 6) (d := (some 18)) (v := (.tuple #[SpV 0 0, .bool false])) rfl rfl (by kernel_rfl) (by kernel_rfl) (by kernel_rfl) (fun _ _ _ h => h) (by rfl) ?hl6 (by assumption) ?_
  case hl6 => (intro w3 hSw; have q := HI.out w3 hSw.1; go_simp)
  simp only [Act.put, List.setIfInBounds_toArray, List.set_cons_zero, List.set_cons_succ]
  refine takeH (i := 7) (d := (some 11)) (v := ?v6) rfl rfl (by kernel_rfl) (by kernel_rfl) (by kernel_rfl) (fun _ _ _ h => h) (by rfl) ?hy6 (by assumption) ?_
  case hy6 => ((intro w hSw; (try dsimp only at hSw); (try go_split_ands); go_simp); try with_reducible rfl)
  simp only [Act.put, List.setIfInBounds_toArray, List.set_cons_zero, List.set_cons_succ]
  refine takeH (i := 8) (d := (some 19)) (v := ?v7) rfl rfl (by kernel_rfl) (by kernel_rfl) (by kernel_rfl) (fun _ _ _ h => h) (by rfl) ?hy7 (by assumption) ?_
  case hy7 => ((intro w hSw; (try dsimp only at hSw); (try go_split_ands); go_simp); try with_reducible rfl)
  simp only [Act.put, List.setIfInBounds_toArray, List.set_cons_zero, List.set_cons_succ]
  refine takeH (i := 9) (d := (some 20)) (v := ?v8) rfl rfl (by kernel_rfl) (by kernel_rfl) (by kernel_rfl) (fun _ _ _ h => h) (by rfl) ?hy8 (by assumption) ?_
  case hy8 => ((intro w hSw; (try dsimp only at hSw); (try go_split_ands); go_simp); try with_reducible rfl)
  simp only [Act.put, List.setIfInBounds_toArray, List.set_cons_zero, List.set_cons_succ]
  refine wpAnyH_ready (rs := [10]) (by kernel_rfl) (by simp) ?_
  refine AllReadyH.cons rfl (fun K hK => ?_) AllReadyH.nil
  go_simp
  obtain ⟨W1, hW1⟩ : ∃ Z, (((w.alloc (.cells #[.int .i64 x.1, .int .i64 x.2, .int .i64 y.1, .int .i64 y.2, .int .i64 s.1, .int .i64 s.2] 125)).alloc (.cells #[.int .i64 s.1, .int .i64 s.2] 34)).alloc (.cells #[.int .i64 0, .int .i64 0] 34)).drew = Z := ⟨_, rfl⟩
  have V1 : Up w W1 := by rw [← hW1]; exact ((((Up.refl w).alloc _).alloc _).alloc _).drew
  have kt1 : mblk W1 w.heap.size = some (.cells #[.int .i64 x.1, .int .i64 x.2, .int .i64 y.1, .int .i64 y.2, .int .i64 s.1, .int .i64 s.2] 125 (0, 0)) := by rw [← hW1, blk_drew]; exact blk_keep _ (blk_keep _ (blk_new w (.cells #[.int .i64 x.1, .int .i64 x.2, .int .i64 y.1, .int .i64 y.2, .int .i64 s.1, .int .i64 s.2] 125) _ rfl))
  have ks1 : mblk W1 (w.heap.size + 1) = some (.cells #[.int .i64 s.1, .int .i64 s.2] 34 (0, 0)) := by rw [← hW1, blk_drew]; exact blk_keep _ (blk_new (w.alloc (.cells #[.int .i64 x.1, .int .i64 x.2, .int .i64 y.1, .int .i64 y.2, .int .i64 s.1, .int .i64 s.2] 125)) (.cells #[.int .i64 s.1, .int .i64 s.2] 34) _ (by simp))
  have kz1 : mblk W1 (w.heap.size + 1 + 1) = some (.cells #[.int .i64 0, .int .i64 0] 34 (0, 0)) := by rw [← hW1, blk_drew]; exact blk_new ((w.alloc (.cells #[.int .i64 x.1, .int .i64 x.2, .int .i64 y.1, .int .i64 y.2, .int .i64 s.1, .int .i64 s.2] 125)).alloc (.cells #[.int .i64 s.1, .int .i64 s.2] 34)) _ _ (by simp)
  rw [hW1]
  refine hK.out _ _ ⟨V1, kt1, ks1⟩ (fun hHeld1 => ?_)
  clear hK K hHeld hW1
  have fz := frozB kz1
  have cz := cellB kz1
  have lz := blk_lt kz1
  refine wpAnyH_ready (rs := [11]) (by kernel_rfl) (by simp) ?_
  refine AllReadyH.cons rfl (fun K hK => ?_) AllReadyH.nil
  go_simp
  obtain ⟨W2, hW2⟩ : ∃ Z, (W1.setCell ⟨w.heap.size + 1 + 1, 0, none⟩ (.int .i64 0)).setCell ⟨w.heap.size + 1 + 1, 1, none⟩ (.int .i64 0) = Z := ⟨_, rfl⟩
  have V2 : Up w W2 := by rw [← hW2]; exact (V1.set (by show w.heap.size ≤ w.heap.size + 1 + 1; omega) _).set (by show w.heap.size ≤ w.heap.size + 1 + 1; omega) _
  have kt2 : mblk W2 w.heap.size = some (.cells #[.int .i64 x.1, .int .i64 x.2, .int .i64 y.1, .int .i64 y.2, .int .i64 s.1, .int .i64 s.2] 125 (0, 0)) := by rw [← hW2, blk_set _ _ _ _ (by show w.heap.size ≠ w.heap.size + 1 + 1; omega), blk_set _ _ _ _ (by show w.heap.size ≠ w.heap.size + 1 + 1; omega)]; exact kt1
  have ks2 : mblk W2 (w.heap.size + 1) = some (.cells #[.int .i64 s.1, .int .i64 s.2] 34 (0, 0)) := by rw [← hW2, blk_set _ _ _ _ (by show w.heap.size + 1 ≠ w.heap.size + 1 + 1; omega), blk_set _ _ _ _ (by show w.heap.size + 1 ≠ w.heap.size + 1 + 1; omega)]; exact ks1
  have kz2 : mblk W2 (w.heap.size + 1 + 1) = some (.cells #[.int .i64 0, .int .i64 0] 34 (0, 0)) := by rw [← hW2]; exact blk_put (blk_put kz1 0 _) 1 _
  rw [hW2]
  refine hK.out _ _ ⟨V2, kt2, ks2⟩ (fun hHeld => ?_)
  clear hK K hW2 fz cz lz kt1 ks1 kz1 V1 hHeld1
  refine takeH (i := 12) (d := (some 8)) (v := ?v11) rfl rfl (by kernel_rfl) (by kernel_rfl) (by kernel_rfl) (fun _ _ _ h => h) (by rfl) ?hy11 (by assumption) ?_
  case hy11 => ((intro w hSw; (try dsimp only at hSw); (try go_split_ands); go_simp); try with_reducible rfl)
  simp only [Act.put, List.setIfInBounds_toArray, List.set_cons_zero, List.set_cons_succ]
  refine wpAnyH_done (by kernel_rfl) ?_ _
  clear hHeld
  obtain ⟨X, hX⟩ : ∃ Z, W2 = Z := ⟨_, rfl⟩
  have VX : Up w X := by rw [← hX]; exact V2
  have ktX : mblk X w.heap.size = some (.cells #[.int .i64 x.1, .int .i64 x.2, .int .i64 y.1, .int .i64 y.2, .int .i64 s.1, .int .i64 s.2] 125 (0, 0)) := by rw [← hX]; exact kt2
  have ksX : mblk X (w.heap.size + 1) = some (.cells #[.int .i64 s.1, .int .i64 s.2] 34 (0, 0)) := by rw [← hX]; exact ks2
  rw [hX]
  clear hX kt2 ks2 kz2 V2
  have lm := HH.out.out.lt
  have lg := (HH.out.inn x HX.out).lt
  have HS5 := Lib.hid (show w.grownBy X.drew (some (g x)) ∧ mblk X.drew w.heap.size = some (.cells #[.int .i64 x.1, .int .i64 x.2, .int .i64 y.1, .int .i64 y.2, .int .i64 s.1, .int .i64 s.2] 125 (0, 0)) ∧ mblk X.drew (w.heap.size + 1) = some (.cells #[.int .i64 s.1, .int .i64 s.2] 34 (0, 0)) ∧ T.Out X.drew m 1000 (fun a => if a ∈ D then some (g a) else none) from ⟨up_grown VX.drew _, by rw [blk_drew]; exact ktX, by rw [blk_drew]; exact ksX, (HH.out.up VX.drew).out⟩)
  obtain ⟨w9, hrun, hI9, hg9⟩ := HP.out X.drew VX.drew (s.1, s.2)
  have hne := HH.out.ne x HX.out
  have hdx := HH.out.dom x HX.out
  have HG := Lib.hid (fun w' (h' : T.Out w' m 1000 (fun a => if a ∈ D then some (g a) else none)) => h'.look hdx (b := g x) (by simp [HX.out]))
  have HFIN := Lib.hid (fun (v : World) (hi : T.Inn v (g x) (N + 1) (T.upd (K x) y (s.1, s.2))) (hg : w.grownBy v (some (g x))) => HH.out.put HX.out hi hg)
  generalize hgx : g x = gx at *
  have HGX := Lib.hid hgx
  clear hgx
  go_wp2_with fail
  refine wp_region_held_drew (S := fun w' => w.grownBy w' (some gx) ∧ mblk w' w.heap.size = some (.cells #[.int .i64 x.1, .int .i64 x.2, .int .i64 y.1, .int .i64 y.2, .int .i64 s.1, .int .i64 s.2] 125 (0, 0)) ∧ mblk w' (w.heap.size + 1) = some (.cells #[.int .i64 s.1, .int .i64 s.2] 34 (0, 0)) ∧ T.Out w' m 1000 (fun a => if a ∈ D then some (g a) else none)) (by kernel_rfl) HS5.out (fun hHeld => ?_)
  clear ktX ksX HI HO
  refine takeH (i := 0) (d := (some 26)) (v := ?v12) rfl rfl (by kernel_rfl) (by kernel_rfl) (by kernel_rfl) (fun _ _ _ h => h) (by rfl) ?hy12 (by assumption) ?_
  case hy12 => ((intro w hSw; (try dsimp only at hSw); (try go_split_ands); go_simp); try with_reducible rfl)
  simp only [Act.put, List.setIfInBounds_toArray, List.set_cons_zero, List.set_cons_succ]
  refine takeH (i := 1) (d := (some 27)) (v := ?v13) rfl rfl (by kernel_rfl) (by kernel_rfl) (by kernel_rfl) (fun _ _ _ h => h) (by rfl) ?hy13 (by assumption) ?_
  case hy13 => ((intro w hSw; (try dsimp only at hSw); (try go_split_ands); go_simp); try with_reducible rfl)
  simp only [Act.put, List.setIfInBounds_toArray, List.set_cons_zero, List.set_cons_succ]
  refine takeH (i := 4) (d := (some 30)) (v := ?v14) rfl rfl (by kernel_rfl) (by kernel_rfl) (by kernel_rfl) (fun _ _ _ h => h) (by rfl) ?hy14 (by assumption) ?_
  case hy14 => ((intro w hSw; (try dsimp only at hSw); (try go_split_ands); go_simp); try with_reducible rfl)
  simp only [Act.put, List.setIfInBounds_toArray, List.set_cons_zero, List.set_cons_succ]
  refine takeH (i := 6) (d := (some 32)) (v := ?v15) rfl rfl (by kernel_rfl) (by kernel_rfl) (by kernel_rfl) (fun _ _ _ h => h) (by rfl) ?hy15 (by assumption) ?_
  case hy15 => ((intro w hSw; (try dsimp only at hSw); (try go_split_ands); go_simp); try with_reducible rfl)
  simp only [Act.put, List.setIfInBounds_toArray, List.set_cons_zero, List.set_cons_succ]
  refine takeH (i := 2) (d := (some 28)) (v := ?v16) rfl rfl (by kernel_rfl) (by kernel_rfl) (by kernel_rfl) (fun _ _ _ h => h) (by rfl) ?hy16 (by assumption) ?_
  case hy16 => ((intro w hSw; (try dsimp only at hSw); (try go_split_ands); go_simp); try with_reducible rfl)
  simp only [Act.put, List.setIfInBounds_toArray, List.set_cons_zero, List.set_cons_succ]
  refine takeH (i := 5) (d := (some 31)) (v := ?v17) rfl rfl (by kernel_rfl) (by kernel_rfl) (by kernel_rfl) (fun _ _ _ h => h) (by rfl) ?hy17 (by assumption) ?_
  case hy17 => ((intro w hSw; (try dsimp only at hSw); (try go_split_ands); go_simp); try with_reducible rfl)
  simp only [Act.put, List.setIfInBounds_toArray, List.set_cons_zero, List.set_cons_succ]
  refine takeH (i := 3) (d := (some 29)) (v := .map (some gx)) rfl rfl (by kernel_rfl) (by kernel_rfl) (by kernel_rfl) (fun _ _ _ h => h) (by rfl) ?hl3 (by assumption) ?_
  case hl3 => (intro w3 hSw; have q := HG.out w3 hSw.2.2.2; go_simp)
  simp only [Act.put, List.setIfInBounds_toArray, List.set_cons_zero, List.set_cons_succ]
  have hrun' : (Instr.mapUpdate 141 (.map (some gx)) (MoV y.1 y.2) (SpV s.1 s.2)).run Try.prog X.drew = .ok () w9 := hrun
  clear hrun
  refine wpAnyH_ready (rs := [7]) (by kernel_rfl) (by simp) ?_
  refine AllReadyH.cons rfl (fun K hK => ?_) AllReadyH.nil
  go_simp
  refine hK.out _ _ ⟨grown_trans hHeld.1 hg9, (hg9.block _ (blk_lt hHeld.2.1) (fun e => by have := Option.some.inj e; omega)).trans hHeld.2.1, (hg9.block _ (blk_lt hHeld.2.2.1) (fun e => by have := Option.some.inj e; omega)).trans hHeld.2.2.1, hHeld.2.2.2.same (hg9.block _ hHeld.2.2.2.lt (fun e => hne (Option.some.inj e).symm))⟩ (fun hHeld2 => ?_)
  clear hK K hrun'
  refine wpAnyH_done (by kernel_rfl) ?_ _
  have hfin := hHeld2.1
  clear hHeld2
  go_wp2
  go_end0
  exact ⟨rfl, by rw [HV.out]; exact HFIN.out _ hI9 hfin, by rw [HGX.out]; exact hfin⟩
set_option maxRecDepth 100000 in
set_option maxHeartbeats 1000000 in
theorem learn_both_yes {w : World} {m : Nat} {D : List (Int × Int)} {g : Int × Int → Nat} {K : Int × Int → Int × Int → Option (Int × Int)} {N : Nat} (h : T.Know w m D g K N) (hN : N < 100000) {x y s : Int × Int} (hx : x ∈ D) (hy : T.in64 y) {s0 : Int × Int} (hk : K x y = some s0) :
    Calls Try.prog 101 #[.map (some m), .agg #[.int .i64 x.1, .int .i64 x.2, .int .i64 y.1, .int .i64 y.2, .int .i64 s.1, .int .i64 s.2], .func (.func 108) #[] #[]] w fun e w' => e = .returned (.tuple #[]) ∧ T.Know w' m D g (T.put2 K x y (T.joinB (K x y) s)) (N + 1) ∧ w.grownBy w' (some (g x)) := by
  have U0 := ((Up.refl w).alloc (.cells #[.int .i64 x.1, .int .i64 x.2, .int .i64 y.1, .int .i64 y.2, .int .i64 s.1, .int .i64 s.2] 125)).alloc (.cells #[.int .i64 s.1, .int .i64 s.2] 34)
  have kt := blk_keep (.cells #[.int .i64 s.1, .int .i64 s.2] 34) (blk_new w (.cells #[.int .i64 x.1, .int .i64 x.2, .int .i64 y.1, .int .i64 y.2, .int .i64 s.1, .int .i64 s.2] 125) _ rfl)
  have ks := blk_new (w.alloc (.cells #[.int .i64 x.1, .int .i64 x.2, .int .i64 y.1, .int .i64 y.2, .int .i64 s.1, .int .i64 s.2] 125)) (.cells #[.int .i64 s.1, .int .i64 s.2] 34) (w.heap.size + 1) (by simp)
  have HO := Lib.hid (fun w' (u : Up w w') => (h.up u).out.look (h.dom x hx) (b := g x) (by simp [hx]))
  have HI := Lib.hid (fun w' (u : Up w w') => ((h.up u).inn x hx).yes hy hk)
  have HP := Lib.hid (fun w' (u : Up w w') (v : Int × Int) => ((h.up u).inn x hx).put (by omega) hy v)
  have HJ := Lib.hid (fun w => both_any s0.1 s0.2 s.1 s.2 w)
  have HV := Lib.hid (show T.joinB (K x y) s = (max s0.1 s.1, min s0.2 s.2) by rw [hk]; rfl)
  have HH := Lib.hid h
  have HX := Lib.hid hx
  obtain ⟨j1, hj1⟩ : ∃ z, max s0.1 s.1 = z := ⟨_, rfl⟩
  obtain ⟨j2, hj2⟩ : ∃ z, min s0.2 s.2 = z := ⟨_, rfl⟩
  rw [hj1, hj2] at HJ HV
  clear h hk hj1 hj2
  clear hx hN hy
  go_enter Try.func101, Try.ntmps101
  go_wp2_with fail
  refine wp_region_held_drew (S := fun w' => Up w w' ∧ mblk w' w.heap.size = some (.cells #[.int .i64 x.1, .int .i64 x.2, .int .i64 y.1, .int .i64 y.2, .int .i64 s.1, .int .i64 s.2] 125 (0, 0)) ∧ mblk w' (w.heap.size + 1) = some (.cells #[.int .i64 s.1, .int .i64 s.2] 34 (0, 0))) (by kernel_rfl) ⟨U0.drew, by rw [blk_drew]; exact kt, by rw [blk_drew]; exact ks⟩ (fun hHeld => ?_)
  clear U0 kt ks
  refine takeH (i := 0) (d := (some 12)) (v := ?v19) rfl rfl (by kernel_rfl) (by kernel_rfl) (by kernel_rfl) (fun _ _ _ h => h) (by rfl) ?hy19 (by assumption) ?_
  case hy19 => ((intro w hSw; (try dsimp only at hSw); (try go_split_ands); go_simp); try with_reducible rfl)
  simp only [Act.put, List.setIfInBounds_toArray, List.set_cons_zero, List.set_cons_succ]
  refine takeH (i := 1) (d := (some 13)) (v := ?v20) rfl rfl (by kernel_rfl) (by kernel_rfl) (by kernel_rfl) (fun _ _ _ h => h) (by rfl) ?hy20 (by assumption) ?_
  case hy20 => ((intro w hSw; (try dsimp only at hSw); (try go_split_ands); go_simp); try with_reducible rfl)
  simp only [Act.put, List.setIfInBounds_toArray, List.set_cons_zero, List.set_cons_succ]
  refine takeH (i := 4) (d := (some 16)) (v := ?v21) rfl rfl (by kernel_rfl) (by kernel_rfl) (by kernel_rfl) (fun _ _ _ h => h) (by rfl) ?hy21 (by assumption) ?_
  case hy21 => ((intro w hSw; (try dsimp only at hSw); (try go_split_ands); go_simp); try with_reducible rfl)
  simp only [Act.put, List.setIfInBounds_toArray, List.set_cons_zero, List.set_cons_succ]
  refine takeH (i := 2) (d := (some 14)) (v := ?v22) rfl rfl (by kernel_rfl) (by kernel_rfl) (by kernel_rfl) (fun _ _ _ h => h) (by rfl) ?hy22 (by assumption) ?_
  case hy22 => ((intro w hSw; (try dsimp only at hSw); (try go_split_ands); go_simp); try with_reducible rfl)
  simp only [Act.put, List.setIfInBounds_toArray, List.set_cons_zero, List.set_cons_succ]
  refine takeH (i := 5) (d := (some 17)) (v := ?v23) rfl rfl (by kernel_rfl) (by kernel_rfl) (by kernel_rfl) (fun _ _ _ h => h) (by rfl) ?hy23 (by assumption) ?_
  case hy23 => ((intro w hSw; (try dsimp only at hSw); (try go_split_ands); go_simp); try with_reducible rfl)
  simp only [Act.put, List.setIfInBounds_toArray, List.set_cons_zero, List.set_cons_succ]
  refine takeH (i := 3) (d := (some 15)) (v := .map (some (g x))) rfl rfl (by kernel_rfl) (by kernel_rfl) (by kernel_rfl) (fun _ _ _ h => h) (by rfl) ?hl3 (by assumption) ?_
  case hl3 => (intro w3 hSw; have q := HO.out w3 hSw.1; go_simp)
  simp only [Act.put, List.setIfInBounds_toArray, List.set_cons_zero, List.set_cons_succ]
  refine takeH (i := 6) (d := (some 18)) (v := (.tuple #[SpV s0.1 s0.2, .bool true])) rfl rfl (by kernel_rfl) (by kernel_rfl) (by kernel_rfl) (fun _ _ _ h => h) (by rfl) ?hl6 (by assumption) ?_
  case hl6 => (intro w3 hSw; have q := HI.out w3 hSw.1; go_simp)
  simp only [Act.put, List.setIfInBounds_toArray, List.set_cons_zero, List.set_cons_succ]
  refine takeH (i := 7) (d := (some 11)) (v := ?v24) rfl rfl (by kernel_rfl) (by kernel_rfl) (by kernel_rfl) (fun _ _ _ h => h) (by rfl) ?hy24 (by assumption) ?_
  case hy24 => ((intro w hSw; (try dsimp only at hSw); (try go_split_ands); go_simp); try with_reducible rfl)
  simp only [Act.put, List.setIfInBounds_toArray, List.set_cons_zero, List.set_cons_succ]
  refine takeH (i := 8) (d := (some 19)) (v := ?v25) rfl rfl (by kernel_rfl) (by kernel_rfl) (by kernel_rfl) (fun _ _ _ h => h) (by rfl) ?hy25 (by assumption) ?_
  case hy25 => ((intro w hSw; (try dsimp only at hSw); (try go_split_ands); go_simp); try with_reducible rfl)
  simp only [Act.put, List.setIfInBounds_toArray, List.set_cons_zero, List.set_cons_succ]
  refine takeH (i := 9) (d := (some 20)) (v := ?v26) rfl rfl (by kernel_rfl) (by kernel_rfl) (by kernel_rfl) (fun _ _ _ h => h) (by rfl) ?hy26 (by assumption) ?_
  case hy26 => ((intro w hSw; (try dsimp only at hSw); (try go_split_ands); go_simp); try with_reducible rfl)
  simp only [Act.put, List.setIfInBounds_toArray, List.set_cons_zero, List.set_cons_succ]
  refine wpAnyH_ready (rs := [10]) (by kernel_rfl) (by simp) ?_
  refine AllReadyH.cons rfl (fun K hK => ?_) AllReadyH.nil
  go_simp
  obtain ⟨W1, hW1⟩ : ∃ Z, (((w.alloc (.cells #[.int .i64 x.1, .int .i64 x.2, .int .i64 y.1, .int .i64 y.2, .int .i64 s.1, .int .i64 s.2] 125)).alloc (.cells #[.int .i64 s.1, .int .i64 s.2] 34)).alloc (.cells #[.int .i64 0, .int .i64 0] 34)).drew = Z := ⟨_, rfl⟩
  have V1 : Up w W1 := by rw [← hW1]; exact ((((Up.refl w).alloc _).alloc _).alloc _).drew
  have kt1 : mblk W1 w.heap.size = some (.cells #[.int .i64 x.1, .int .i64 x.2, .int .i64 y.1, .int .i64 y.2, .int .i64 s.1, .int .i64 s.2] 125 (0, 0)) := by rw [← hW1, blk_drew]; exact blk_keep _ (blk_keep _ (blk_new w (.cells #[.int .i64 x.1, .int .i64 x.2, .int .i64 y.1, .int .i64 y.2, .int .i64 s.1, .int .i64 s.2] 125) _ rfl))
  have ks1 : mblk W1 (w.heap.size + 1) = some (.cells #[.int .i64 s.1, .int .i64 s.2] 34 (0, 0)) := by rw [← hW1, blk_drew]; exact blk_keep _ (blk_new (w.alloc (.cells #[.int .i64 x.1, .int .i64 x.2, .int .i64 y.1, .int .i64 y.2, .int .i64 s.1, .int .i64 s.2] 125)) (.cells #[.int .i64 s.1, .int .i64 s.2] 34) _ (by simp))
  have kz1 : mblk W1 (w.heap.size + 1 + 1) = some (.cells #[.int .i64 0, .int .i64 0] 34 (0, 0)) := by rw [← hW1, blk_drew]; exact blk_new ((w.alloc (.cells #[.int .i64 x.1, .int .i64 x.2, .int .i64 y.1, .int .i64 y.2, .int .i64 s.1, .int .i64 s.2] 125)).alloc (.cells #[.int .i64 s.1, .int .i64 s.2] 34)) _ _ (by simp)
  rw [hW1]
  refine hK.out _ _ ⟨V1, kt1, ks1⟩ (fun hHeld1 => ?_)
  clear hK K hHeld hW1
  have fz := frozB kz1
  have cz := cellB kz1
  have lz := blk_lt kz1
  refine wpAnyH_ready (rs := [11]) (by kernel_rfl) (by simp) ?_
  refine AllReadyH.cons rfl (fun K hK => ?_) AllReadyH.nil
  go_simp
  obtain ⟨W2, hW2⟩ : ∃ Z, (W1.setCell ⟨w.heap.size + 1 + 1, 0, none⟩ (.int .i64 s0.1)).setCell ⟨w.heap.size + 1 + 1, 1, none⟩ (.int .i64 s0.2) = Z := ⟨_, rfl⟩
  have V2 : Up w W2 := by rw [← hW2]; exact (V1.set (by show w.heap.size ≤ w.heap.size + 1 + 1; omega) _).set (by show w.heap.size ≤ w.heap.size + 1 + 1; omega) _
  have kt2 : mblk W2 w.heap.size = some (.cells #[.int .i64 x.1, .int .i64 x.2, .int .i64 y.1, .int .i64 y.2, .int .i64 s.1, .int .i64 s.2] 125 (0, 0)) := by rw [← hW2, blk_set _ _ _ _ (by show w.heap.size ≠ w.heap.size + 1 + 1; omega), blk_set _ _ _ _ (by show w.heap.size ≠ w.heap.size + 1 + 1; omega)]; exact kt1
  have ks2 : mblk W2 (w.heap.size + 1) = some (.cells #[.int .i64 s.1, .int .i64 s.2] 34 (0, 0)) := by rw [← hW2, blk_set _ _ _ _ (by show w.heap.size + 1 ≠ w.heap.size + 1 + 1; omega), blk_set _ _ _ _ (by show w.heap.size + 1 ≠ w.heap.size + 1 + 1; omega)]; exact ks1
  have kz2 : mblk W2 (w.heap.size + 1 + 1) = some (.cells #[.int .i64 s0.1, .int .i64 s0.2] 34 (0, 0)) := by rw [← hW2]; exact blk_put (blk_put kz1 0 _) 1 _
  rw [hW2]
  refine hK.out _ _ ⟨V2, kt2, ks2⟩ (fun hHeld => ?_)
  clear hK K hW2 fz cz lz kt1 ks1 kz1 V1 hHeld1
  refine takeH (i := 12) (d := (some 8)) (v := ?v29) rfl rfl (by kernel_rfl) (by kernel_rfl) (by kernel_rfl) (fun _ _ _ h => h) (by rfl) ?hy29 (by assumption) ?_
  case hy29 => ((intro w hSw; (try dsimp only at hSw); (try go_split_ands); go_simp); try with_reducible rfl)
  simp only [Act.put, List.setIfInBounds_toArray, List.set_cons_zero, List.set_cons_succ]
  refine wpAnyH_done (by kernel_rfl) ?_ _
  clear hHeld
  have fz := frozB ks2
  have lz := blk_lt ks2
  go_wp2_with fail
  refine (HJ.out _).mono ?_
  rintro e w3 ⟨rfl, u3⟩
  have kt3 := u3.blk kt2
  have ks3 := u3.blk ks2
  have V3 := V2.trans u3
  have f3 := frozB ks3
  have c3 := cellB ks3
  obtain ⟨X, hX⟩ : ∃ Z, (w3.setCell ⟨w.heap.size + 1, 0, none⟩ (.int .i64 j1)).setCell ⟨w.heap.size + 1, 1, none⟩ (.int .i64 j2) = Z := ⟨_, rfl⟩
  have VX : Up w X := by rw [← hX]; exact (V3.set (by show w.heap.size ≤ w.heap.size + 1; omega) _).set (by show w.heap.size ≤ w.heap.size + 1; omega) _
  have ktX : mblk X w.heap.size = some (.cells #[.int .i64 x.1, .int .i64 x.2, .int .i64 y.1, .int .i64 y.2, .int .i64 s.1, .int .i64 s.2] 125 (0, 0)) := by rw [← hX, blk_set _ _ _ _ (by show w.heap.size ≠ w.heap.size + 1; omega), blk_set _ _ _ _ (by show w.heap.size ≠ w.heap.size + 1; omega)]; exact kt3
  have ksX : mblk X (w.heap.size + 1) = some (.cells #[.int .i64 j1, .int .i64 j2] 34 (0, 0)) := by rw [← hX]; exact blk_put (blk_put ks3 0 _) 1 _
  go_wp2_with fail
  try rw [hX]
  clear hX f3 c3 kt3 ks3 u3 V3 fz lz kz2 kt2 ks2 V2
  have lm := HH.out.out.lt
  have lg := (HH.out.inn x HX.out).lt
  have HS5 := Lib.hid (show w.grownBy X.drew (some (g x)) ∧ mblk X.drew w.heap.size = some (.cells #[.int .i64 x.1, .int .i64 x.2, .int .i64 y.1, .int .i64 y.2, .int .i64 s.1, .int .i64 s.2] 125 (0, 0)) ∧ mblk X.drew (w.heap.size + 1) = some (.cells #[.int .i64 j1, .int .i64 j2] 34 (0, 0)) ∧ T.Out X.drew m 1000 (fun a => if a ∈ D then some (g a) else none) from ⟨up_grown VX.drew _, by rw [blk_drew]; exact ktX, by rw [blk_drew]; exact ksX, (HH.out.up VX.drew).out⟩)
  obtain ⟨w9, hrun, hI9, hg9⟩ := HP.out X.drew VX.drew (j1, j2)
  have hne := HH.out.ne x HX.out
  have hdx := HH.out.dom x HX.out
  have HG := Lib.hid (fun w' (h' : T.Out w' m 1000 (fun a => if a ∈ D then some (g a) else none)) => h'.look hdx (b := g x) (by simp [HX.out]))
  have HFIN := Lib.hid (fun (v : World) (hi : T.Inn v (g x) (N + 1) (T.upd (K x) y (j1, j2))) (hg : w.grownBy v (some (g x))) => HH.out.put HX.out hi hg)
  generalize hgx : g x = gx at *
  have HGX := Lib.hid hgx
  clear hgx
  go_wp2_with fail
  refine wp_region_held_drew (S := fun w' => w.grownBy w' (some gx) ∧ mblk w' w.heap.size = some (.cells #[.int .i64 x.1, .int .i64 x.2, .int .i64 y.1, .int .i64 y.2, .int .i64 s.1, .int .i64 s.2] 125 (0, 0)) ∧ mblk w' (w.heap.size + 1) = some (.cells #[.int .i64 j1, .int .i64 j2] 34 (0, 0)) ∧ T.Out w' m 1000 (fun a => if a ∈ D then some (g a) else none)) (by kernel_rfl) HS5.out (fun hHeld => ?_)
  clear ktX ksX HI HO
  refine takeH (i := 0) (d := (some 26)) (v := ?v30) rfl rfl (by kernel_rfl) (by kernel_rfl) (by kernel_rfl) (fun _ _ _ h => h) (by rfl) ?hy30 (by assumption) ?_
  case hy30 => ((intro w hSw; (try dsimp only at hSw); (try go_split_ands); go_simp); try with_reducible rfl)
  simp only [Act.put, List.setIfInBounds_toArray, List.set_cons_zero, List.set_cons_succ]
  refine takeH (i := 1) (d := (some 27)) (v := ?v31) rfl rfl (by kernel_rfl) (by kernel_rfl) (by kernel_rfl) (fun _ _ _ h => h) (by rfl) ?hy31 (by assumption) ?_
  case hy31 => ((intro w hSw; (try dsimp only at hSw); (try go_split_ands); go_simp); try with_reducible rfl)
  simp only [Act.put, List.setIfInBounds_toArray, List.set_cons_zero, List.set_cons_succ]
  refine takeH (i := 4) (d := (some 30)) (v := ?v32) rfl rfl (by kernel_rfl) (by kernel_rfl) (by kernel_rfl) (fun _ _ _ h => h) (by rfl) ?hy32 (by assumption) ?_
  case hy32 => ((intro w hSw; (try dsimp only at hSw); (try go_split_ands); go_simp); try with_reducible rfl)
  simp only [Act.put, List.setIfInBounds_toArray, List.set_cons_zero, List.set_cons_succ]
  refine takeH (i := 6) (d := (some 32)) (v := ?v33) rfl rfl (by kernel_rfl) (by kernel_rfl) (by kernel_rfl) (fun _ _ _ h => h) (by rfl) ?hy33 (by assumption) ?_
  case hy33 => ((intro w hSw; (try dsimp only at hSw); (try go_split_ands); go_simp); try with_reducible rfl)
  simp only [Act.put, List.setIfInBounds_toArray, List.set_cons_zero, List.set_cons_succ]
  refine takeH (i := 2) (d := (some 28)) (v := ?v34) rfl rfl (by kernel_rfl) (by kernel_rfl) (by kernel_rfl) (fun _ _ _ h => h) (by rfl) ?hy34 (by assumption) ?_
  case hy34 => ((intro w hSw; (try dsimp only at hSw); (try go_split_ands); go_simp); try with_reducible rfl)
  simp only [Act.put, List.setIfInBounds_toArray, List.set_cons_zero, List.set_cons_succ]
  refine takeH (i := 5) (d := (some 31)) (v := ?v35) rfl rfl (by kernel_rfl) (by kernel_rfl) (by kernel_rfl) (fun _ _ _ h => h) (by rfl) ?hy35 (by assumption) ?_
  case hy35 => ((intro w hSw; (try dsimp only at hSw); (try go_split_ands); go_simp); try with_reducible rfl)
  simp only [Act.put, List.setIfInBounds_toArray, List.set_cons_zero, List.set_cons_succ]
  refine takeH (i := 3) (d := (some 29)) (v := .map (some gx)) rfl rfl (by kernel_rfl) (by kernel_rfl) (by kernel_rfl) (fun _ _ _ h => h) (by rfl) ?hl3 (by assumption) ?_
  case hl3 => (intro w3 hSw; have q := HG.out w3 hSw.2.2.2; go_simp)
  simp only [Act.put, List.setIfInBounds_toArray, List.set_cons_zero, List.set_cons_succ]
  have hrun' : (Instr.mapUpdate 141 (.map (some gx)) (MoV y.1 y.2) (SpV j1 j2)).run Try.prog X.drew = .ok () w9 := hrun
  clear hrun
  refine wpAnyH_ready (rs := [7]) (by kernel_rfl) (by simp) ?_
  refine AllReadyH.cons rfl (fun K hK => ?_) AllReadyH.nil
  go_simp
  refine hK.out _ _ ⟨grown_trans hHeld.1 hg9, (hg9.block _ (blk_lt hHeld.2.1) (fun e => by have := Option.some.inj e; omega)).trans hHeld.2.1, (hg9.block _ (blk_lt hHeld.2.2.1) (fun e => by have := Option.some.inj e; omega)).trans hHeld.2.2.1, hHeld.2.2.2.same (hg9.block _ hHeld.2.2.2.lt (fun e => hne (Option.some.inj e).symm))⟩ (fun hHeld2 => ?_)
  clear hK K hrun'
  refine wpAnyH_done (by kernel_rfl) ?_ _
  have hfin := hHeld2.1
  clear hHeld2
  go_wp2
  go_end0
  exact ⟨rfl, by rw [HV.out]; exact HFIN.out _ hI9 hfin, by rw [HGX.out]; exact hfin⟩
set_option maxRecDepth 100000 in
set_option maxHeartbeats 1000000 in
theorem learn_added_no {w : World} {m : Nat} {D : List (Int × Int)} {g : Int × Int → Nat} {K : Int × Int → Int × Int → Option (Int × Int)} {N : Nat} (h : T.Know w m D g K N) (hN : N < 100000) {x y s : Int × Int} (hx : x ∈ D) (hy : T.in64 y) (hk : K x y = none) :
    Calls Try.prog 101 #[.map (some m), .agg #[.int .i64 x.1, .int .i64 x.2, .int .i64 y.1, .int .i64 y.2, .int .i64 s.1, .int .i64 s.2], .func (.func 111) #[] #[]] w fun e w' => e = .returned (.tuple #[]) ∧ T.Know w' m D g (T.put2 K x y (T.joinA (K x y) s)) (N + 1) ∧ w.grownBy w' (some (g x)) := by
  have U0 := ((Up.refl w).alloc (.cells #[.int .i64 x.1, .int .i64 x.2, .int .i64 y.1, .int .i64 y.2, .int .i64 s.1, .int .i64 s.2] 125)).alloc (.cells #[.int .i64 s.1, .int .i64 s.2] 34)
  have kt := blk_keep (.cells #[.int .i64 s.1, .int .i64 s.2] 34) (blk_new w (.cells #[.int .i64 x.1, .int .i64 x.2, .int .i64 y.1, .int .i64 y.2, .int .i64 s.1, .int .i64 s.2] 125) _ rfl)
  have ks := blk_new (w.alloc (.cells #[.int .i64 x.1, .int .i64 x.2, .int .i64 y.1, .int .i64 y.2, .int .i64 s.1, .int .i64 s.2] 125)) (.cells #[.int .i64 s.1, .int .i64 s.2] 34) (w.heap.size + 1) (by simp)
  have HO := Lib.hid (fun w' (u : Up w w') => (h.up u).out.look (h.dom x hx) (b := g x) (by simp [hx]))
  have HI := Lib.hid (fun w' (u : Up w w') => ((h.up u).inn x hx).no hy hk)
  have HP := Lib.hid (fun w' (u : Up w w') (v : Int × Int) => ((h.up u).inn x hx).put (by omega) hy v)
  have HV := Lib.hid (show T.joinA (K x y) s = (s.1, s.2) by rw [hk]; rfl)
  have HH := Lib.hid h
  have HX := Lib.hid hx
  clear h hk
  clear hx hN hy
  go_enter Try.func101, Try.ntmps101
  go_wp2_with fail
  refine wp_region_held_drew (S := fun w' => Up w w' ∧ mblk w' w.heap.size = some (.cells #[.int .i64 x.1, .int .i64 x.2, .int .i64 y.1, .int .i64 y.2, .int .i64 s.1, .int .i64 s.2] 125 (0, 0)) ∧ mblk w' (w.heap.size + 1) = some (.cells #[.int .i64 s.1, .int .i64 s.2] 34 (0, 0))) (by kernel_rfl) ⟨U0.drew, by rw [blk_drew]; exact kt, by rw [blk_drew]; exact ks⟩ (fun hHeld => ?_)
  clear U0 kt ks
  refine takeH (i := 0) (d := (some 12)) (v := ?v37) rfl rfl (by kernel_rfl) (by kernel_rfl) (by kernel_rfl) (fun _ _ _ h => h) (by rfl) ?hy37 (by assumption) ?_
  case hy37 => ((intro w hSw; (try dsimp only at hSw); (try go_split_ands); go_simp); try with_reducible rfl)
  simp only [Act.put, List.setIfInBounds_toArray, List.set_cons_zero, List.set_cons_succ]
  refine takeH (i := 1) (d := (some 13)) (v := ?v38) rfl rfl (by kernel_rfl) (by kernel_rfl) (by kernel_rfl) (fun _ _ _ h => h) (by rfl) ?hy38 (by assumption) ?_
  case hy38 => ((intro w hSw; (try dsimp only at hSw); (try go_split_ands); go_simp); try with_reducible rfl)
  simp only [Act.put, List.setIfInBounds_toArray, List.set_cons_zero, List.set_cons_succ]
  refine takeH (i := 4) (d := (some 16)) (v := ?v39) rfl rfl (by kernel_rfl) (by kernel_rfl) (by kernel_rfl) (fun _ _ _ h => h) (by rfl) ?hy39 (by assumption) ?_
  case hy39 => ((intro w hSw; (try dsimp only at hSw); (try go_split_ands); go_simp); try with_reducible rfl)
  simp only [Act.put, List.setIfInBounds_toArray, List.set_cons_zero, List.set_cons_succ]
  refine takeH (i := 2) (d := (some 14)) (v := ?v40) rfl rfl (by kernel_rfl) (by kernel_rfl) (by kernel_rfl) (fun _ _ _ h => h) (by rfl) ?hy40 (by assumption) ?_
  case hy40 => ((intro w hSw; (try dsimp only at hSw); (try go_split_ands); go_simp); try with_reducible rfl)
  simp only [Act.put, List.setIfInBounds_toArray, List.set_cons_zero, List.set_cons_succ]
  refine takeH (i := 5) (d := (some 17)) (v := ?v41) rfl rfl (by kernel_rfl) (by kernel_rfl) (by kernel_rfl) (fun _ _ _ h => h) (by rfl) ?hy41 (by assumption) ?_
  case hy41 => ((intro w hSw; (try dsimp only at hSw); (try go_split_ands); go_simp); try with_reducible rfl)
  simp only [Act.put, List.setIfInBounds_toArray, List.set_cons_zero, List.set_cons_succ]
  refine takeH (i := 3) (d := (some 15)) (v := .map (some (g x))) rfl rfl (by kernel_rfl) (by kernel_rfl) (by kernel_rfl) (fun _ _ _ h => h) (by rfl) ?hl3 (by assumption) ?_
  case hl3 => (intro w3 hSw; have q := HO.out w3 hSw.1; go_simp)
  simp only [Act.put, List.setIfInBounds_toArray, List.set_cons_zero, List.set_cons_succ]
  refine takeH (i := 6) (d := (some 18)) (v := (.tuple #[SpV 0 0, .bool false])) rfl rfl (by kernel_rfl) (by kernel_rfl) (by kernel_rfl) (fun _ _ _ h => h) (by rfl) ?hl6 (by assumption) ?_
  case hl6 => (intro w3 hSw; have q := HI.out w3 hSw.1; go_simp)
  simp only [Act.put, List.setIfInBounds_toArray, List.set_cons_zero, List.set_cons_succ]
  refine takeH (i := 7) (d := (some 11)) (v := ?v42) rfl rfl (by kernel_rfl) (by kernel_rfl) (by kernel_rfl) (fun _ _ _ h => h) (by rfl) ?hy42 (by assumption) ?_
  case hy42 => ((intro w hSw; (try dsimp only at hSw); (try go_split_ands); go_simp); try with_reducible rfl)
  simp only [Act.put, List.setIfInBounds_toArray, List.set_cons_zero, List.set_cons_succ]
  refine takeH (i := 8) (d := (some 19)) (v := ?v43) rfl rfl (by kernel_rfl) (by kernel_rfl) (by kernel_rfl) (fun _ _ _ h => h) (by rfl) ?hy43 (by assumption) ?_
  case hy43 => ((intro w hSw; (try dsimp only at hSw); (try go_split_ands); go_simp); try with_reducible rfl)
  simp only [Act.put, List.setIfInBounds_toArray, List.set_cons_zero, List.set_cons_succ]
  refine takeH (i := 9) (d := (some 20)) (v := ?v44) rfl rfl (by kernel_rfl) (by kernel_rfl) (by kernel_rfl) (fun _ _ _ h => h) (by rfl) ?hy44 (by assumption) ?_
  case hy44 => ((intro w hSw; (try dsimp only at hSw); (try go_split_ands); go_simp); try with_reducible rfl)
  simp only [Act.put, List.setIfInBounds_toArray, List.set_cons_zero, List.set_cons_succ]
  refine wpAnyH_ready (rs := [10]) (by kernel_rfl) (by simp) ?_
  refine AllReadyH.cons rfl (fun K hK => ?_) AllReadyH.nil
  go_simp
  obtain ⟨W1, hW1⟩ : ∃ Z, (((w.alloc (.cells #[.int .i64 x.1, .int .i64 x.2, .int .i64 y.1, .int .i64 y.2, .int .i64 s.1, .int .i64 s.2] 125)).alloc (.cells #[.int .i64 s.1, .int .i64 s.2] 34)).alloc (.cells #[.int .i64 0, .int .i64 0] 34)).drew = Z := ⟨_, rfl⟩
  have V1 : Up w W1 := by rw [← hW1]; exact ((((Up.refl w).alloc _).alloc _).alloc _).drew
  have kt1 : mblk W1 w.heap.size = some (.cells #[.int .i64 x.1, .int .i64 x.2, .int .i64 y.1, .int .i64 y.2, .int .i64 s.1, .int .i64 s.2] 125 (0, 0)) := by rw [← hW1, blk_drew]; exact blk_keep _ (blk_keep _ (blk_new w (.cells #[.int .i64 x.1, .int .i64 x.2, .int .i64 y.1, .int .i64 y.2, .int .i64 s.1, .int .i64 s.2] 125) _ rfl))
  have ks1 : mblk W1 (w.heap.size + 1) = some (.cells #[.int .i64 s.1, .int .i64 s.2] 34 (0, 0)) := by rw [← hW1, blk_drew]; exact blk_keep _ (blk_new (w.alloc (.cells #[.int .i64 x.1, .int .i64 x.2, .int .i64 y.1, .int .i64 y.2, .int .i64 s.1, .int .i64 s.2] 125)) (.cells #[.int .i64 s.1, .int .i64 s.2] 34) _ (by simp))
  have kz1 : mblk W1 (w.heap.size + 1 + 1) = some (.cells #[.int .i64 0, .int .i64 0] 34 (0, 0)) := by rw [← hW1, blk_drew]; exact blk_new ((w.alloc (.cells #[.int .i64 x.1, .int .i64 x.2, .int .i64 y.1, .int .i64 y.2, .int .i64 s.1, .int .i64 s.2] 125)).alloc (.cells #[.int .i64 s.1, .int .i64 s.2] 34)) _ _ (by simp)
  rw [hW1]
  refine hK.out _ _ ⟨V1, kt1, ks1⟩ (fun hHeld1 => ?_)
  clear hK K hHeld hW1
  have fz := frozB kz1
  have cz := cellB kz1
  have lz := blk_lt kz1
  refine wpAnyH_ready (rs := [11]) (by kernel_rfl) (by simp) ?_
  refine AllReadyH.cons rfl (fun K hK => ?_) AllReadyH.nil
  go_simp
  obtain ⟨W2, hW2⟩ : ∃ Z, (W1.setCell ⟨w.heap.size + 1 + 1, 0, none⟩ (.int .i64 0)).setCell ⟨w.heap.size + 1 + 1, 1, none⟩ (.int .i64 0) = Z := ⟨_, rfl⟩
  have V2 : Up w W2 := by rw [← hW2]; exact (V1.set (by show w.heap.size ≤ w.heap.size + 1 + 1; omega) _).set (by show w.heap.size ≤ w.heap.size + 1 + 1; omega) _
  have kt2 : mblk W2 w.heap.size = some (.cells #[.int .i64 x.1, .int .i64 x.2, .int .i64 y.1, .int .i64 y.2, .int .i64 s.1, .int .i64 s.2] 125 (0, 0)) := by rw [← hW2, blk_set _ _ _ _ (by show w.heap.size ≠ w.heap.size + 1 + 1; omega), blk_set _ _ _ _ (by show w.heap.size ≠ w.heap.size + 1 + 1; omega)]; exact kt1
  have ks2 : mblk W2 (w.heap.size + 1) = some (.cells #[.int .i64 s.1, .int .i64 s.2] 34 (0, 0)) := by rw [← hW2, blk_set _ _ _ _ (by show w.heap.size + 1 ≠ w.heap.size + 1 + 1; omega), blk_set _ _ _ _ (by show w.heap.size + 1 ≠ w.heap.size + 1 + 1; omega)]; exact ks1
  have kz2 : mblk W2 (w.heap.size + 1 + 1) = some (.cells #[.int .i64 0, .int .i64 0] 34 (0, 0)) := by rw [← hW2]; exact blk_put (blk_put kz1 0 _) 1 _
  rw [hW2]
  refine hK.out _ _ ⟨V2, kt2, ks2⟩ (fun hHeld => ?_)
  clear hK K hW2 fz cz lz kt1 ks1 kz1 V1 hHeld1
  refine takeH (i := 12) (d := (some 8)) (v := ?v47) rfl rfl (by kernel_rfl) (by kernel_rfl) (by kernel_rfl) (fun _ _ _ h => h) (by rfl) ?hy47 (by assumption) ?_
  case hy47 => ((intro w hSw; (try dsimp only at hSw); (try go_split_ands); go_simp); try with_reducible rfl)
  simp only [Act.put, List.setIfInBounds_toArray, List.set_cons_zero, List.set_cons_succ]
  refine wpAnyH_done (by kernel_rfl) ?_ _
  clear hHeld
  obtain ⟨X, hX⟩ : ∃ Z, W2 = Z := ⟨_, rfl⟩
  have VX : Up w X := by rw [← hX]; exact V2
  have ktX : mblk X w.heap.size = some (.cells #[.int .i64 x.1, .int .i64 x.2, .int .i64 y.1, .int .i64 y.2, .int .i64 s.1, .int .i64 s.2] 125 (0, 0)) := by rw [← hX]; exact kt2
  have ksX : mblk X (w.heap.size + 1) = some (.cells #[.int .i64 s.1, .int .i64 s.2] 34 (0, 0)) := by rw [← hX]; exact ks2
  rw [hX]
  clear hX kt2 ks2 kz2 V2
  have lm := HH.out.out.lt
  have lg := (HH.out.inn x HX.out).lt
  have HS5 := Lib.hid (show w.grownBy X.drew (some (g x)) ∧ mblk X.drew w.heap.size = some (.cells #[.int .i64 x.1, .int .i64 x.2, .int .i64 y.1, .int .i64 y.2, .int .i64 s.1, .int .i64 s.2] 125 (0, 0)) ∧ mblk X.drew (w.heap.size + 1) = some (.cells #[.int .i64 s.1, .int .i64 s.2] 34 (0, 0)) ∧ T.Out X.drew m 1000 (fun a => if a ∈ D then some (g a) else none) from ⟨up_grown VX.drew _, by rw [blk_drew]; exact ktX, by rw [blk_drew]; exact ksX, (HH.out.up VX.drew).out⟩)
  obtain ⟨w9, hrun, hI9, hg9⟩ := HP.out X.drew VX.drew (s.1, s.2)
  have hne := HH.out.ne x HX.out
  have hdx := HH.out.dom x HX.out
  have HG := Lib.hid (fun w' (h' : T.Out w' m 1000 (fun a => if a ∈ D then some (g a) else none)) => h'.look hdx (b := g x) (by simp [HX.out]))
  have HFIN := Lib.hid (fun (v : World) (hi : T.Inn v (g x) (N + 1) (T.upd (K x) y (s.1, s.2))) (hg : w.grownBy v (some (g x))) => HH.out.put HX.out hi hg)
  generalize hgx : g x = gx at *
  have HGX := Lib.hid hgx
  clear hgx
  go_wp2_with fail
  refine wp_region_held_drew (S := fun w' => w.grownBy w' (some gx) ∧ mblk w' w.heap.size = some (.cells #[.int .i64 x.1, .int .i64 x.2, .int .i64 y.1, .int .i64 y.2, .int .i64 s.1, .int .i64 s.2] 125 (0, 0)) ∧ mblk w' (w.heap.size + 1) = some (.cells #[.int .i64 s.1, .int .i64 s.2] 34 (0, 0)) ∧ T.Out w' m 1000 (fun a => if a ∈ D then some (g a) else none)) (by kernel_rfl) HS5.out (fun hHeld => ?_)
  clear ktX ksX HI HO
  refine takeH (i := 0) (d := (some 26)) (v := ?v48) rfl rfl (by kernel_rfl) (by kernel_rfl) (by kernel_rfl) (fun _ _ _ h => h) (by rfl) ?hy48 (by assumption) ?_
  case hy48 => ((intro w hSw; (try dsimp only at hSw); (try go_split_ands); go_simp); try with_reducible rfl)
  simp only [Act.put, List.setIfInBounds_toArray, List.set_cons_zero, List.set_cons_succ]
  refine takeH (i := 1) (d := (some 27)) (v := ?v49) rfl rfl (by kernel_rfl) (by kernel_rfl) (by kernel_rfl) (fun _ _ _ h => h) (by rfl) ?hy49 (by assumption) ?_
  case hy49 => ((intro w hSw; (try dsimp only at hSw); (try go_split_ands); go_simp); try with_reducible rfl)
  simp only [Act.put, List.setIfInBounds_toArray, List.set_cons_zero, List.set_cons_succ]
  refine takeH (i := 4) (d := (some 30)) (v := ?v50) rfl rfl (by kernel_rfl) (by kernel_rfl) (by kernel_rfl) (fun _ _ _ h => h) (by rfl) ?hy50 (by assumption) ?_
  case hy50 => ((intro w hSw; (try dsimp only at hSw); (try go_split_ands); go_simp); try with_reducible rfl)
  simp only [Act.put, List.setIfInBounds_toArray, List.set_cons_zero, List.set_cons_succ]
  refine takeH (i := 6) (d := (some 32)) (v := ?v51) rfl rfl (by kernel_rfl) (by kernel_rfl) (by kernel_rfl) (fun _ _ _ h => h) (by rfl) ?hy51 (by assumption) ?_
  case hy51 => ((intro w hSw; (try dsimp only at hSw); (try go_split_ands); go_simp); try with_reducible rfl)
  simp only [Act.put, List.setIfInBounds_toArray, List.set_cons_zero, List.set_cons_succ]
  refine takeH (i := 2) (d := (some 28)) (v := ?v52) rfl rfl (by kernel_rfl) (by kernel_rfl) (by kernel_rfl) (fun _ _ _ h => h) (by rfl) ?hy52 (by assumption) ?_
  case hy52 => ((intro w hSw; (try dsimp only at hSw); (try go_split_ands); go_simp); try with_reducible rfl)
  simp only [Act.put, List.setIfInBounds_toArray, List.set_cons_zero, List.set_cons_succ]
  refine takeH (i := 5) (d := (some 31)) (v := ?v53) rfl rfl (by kernel_rfl) (by kernel_rfl) (by kernel_rfl) (fun _ _ _ h => h) (by rfl) ?hy53 (by assumption) ?_
  case hy53 => ((intro w hSw; (try dsimp only at hSw); (try go_split_ands); go_simp); try with_reducible rfl)
  simp only [Act.put, List.setIfInBounds_toArray, List.set_cons_zero, List.set_cons_succ]
  refine takeH (i := 3) (d := (some 29)) (v := .map (some gx)) rfl rfl (by kernel_rfl) (by kernel_rfl) (by kernel_rfl) (fun _ _ _ h => h) (by rfl) ?hl3 (by assumption) ?_
  case hl3 => (intro w3 hSw; have q := HG.out w3 hSw.2.2.2; go_simp)
  simp only [Act.put, List.setIfInBounds_toArray, List.set_cons_zero, List.set_cons_succ]
  have hrun' : (Instr.mapUpdate 141 (.map (some gx)) (MoV y.1 y.2) (SpV s.1 s.2)).run Try.prog X.drew = .ok () w9 := hrun
  clear hrun
  refine wpAnyH_ready (rs := [7]) (by kernel_rfl) (by simp) ?_
  refine AllReadyH.cons rfl (fun K hK => ?_) AllReadyH.nil
  go_simp
  refine hK.out _ _ ⟨grown_trans hHeld.1 hg9, (hg9.block _ (blk_lt hHeld.2.1) (fun e => by have := Option.some.inj e; omega)).trans hHeld.2.1, (hg9.block _ (blk_lt hHeld.2.2.1) (fun e => by have := Option.some.inj e; omega)).trans hHeld.2.2.1, hHeld.2.2.2.same (hg9.block _ hHeld.2.2.2.lt (fun e => hne (Option.some.inj e).symm))⟩ (fun hHeld2 => ?_)
  clear hK K hrun'
  refine wpAnyH_done (by kernel_rfl) ?_ _
  have hfin := hHeld2.1
  clear hHeld2
  go_wp2
  go_end0
  exact ⟨rfl, by rw [HV.out]; exact HFIN.out _ hI9 hfin, by rw [HGX.out]; exact hfin⟩
set_option maxRecDepth 100000 in
set_option maxHeartbeats 1000000 in
theorem learn_added_yes {w : World} {m : Nat} {D : List (Int × Int)} {g : Int × Int → Nat} {K : Int × Int → Int × Int → Option (Int × Int)} {N : Nat} (h : T.Know w m D g K N) (hN : N < 100000) {x y s : Int × Int} (hx : x ∈ D) (hy : T.in64 y) {s0 : Int × Int} (hk : K x y = some s0) (hb : (-100000000 ≤ s0.1 + s.1 ∧ s0.1 + s.1 ≤ 100000000) ∧ (-100000000 ≤ s0.2 + s.2 ∧ s0.2 + s.2 ≤ 100000000)) :
    Calls Try.prog 101 #[.map (some m), .agg #[.int .i64 x.1, .int .i64 x.2, .int .i64 y.1, .int .i64 y.2, .int .i64 s.1, .int .i64 s.2], .func (.func 111) #[] #[]] w fun e w' => e = .returned (.tuple #[]) ∧ T.Know w' m D g (T.put2 K x y (T.joinA (K x y) s)) (N + 1) ∧ w.grownBy w' (some (g x)) := by
  have U0 := ((Up.refl w).alloc (.cells #[.int .i64 x.1, .int .i64 x.2, .int .i64 y.1, .int .i64 y.2, .int .i64 s.1, .int .i64 s.2] 125)).alloc (.cells #[.int .i64 s.1, .int .i64 s.2] 34)
  have kt := blk_keep (.cells #[.int .i64 s.1, .int .i64 s.2] 34) (blk_new w (.cells #[.int .i64 x.1, .int .i64 x.2, .int .i64 y.1, .int .i64 y.2, .int .i64 s.1, .int .i64 s.2] 125) _ rfl)
  have ks := blk_new (w.alloc (.cells #[.int .i64 x.1, .int .i64 x.2, .int .i64 y.1, .int .i64 y.2, .int .i64 s.1, .int .i64 s.2] 125)) (.cells #[.int .i64 s.1, .int .i64 s.2] 34) (w.heap.size + 1) (by simp)
  have HO := Lib.hid (fun w' (u : Up w w') => (h.up u).out.look (h.dom x hx) (b := g x) (by simp [hx]))
  have HI := Lib.hid (fun w' (u : Up w w') => ((h.up u).inn x hx).yes hy hk)
  have HP := Lib.hid (fun w' (u : Up w w') (v : Int × Int) => ((h.up u).inn x hx).put (by omega) hy v)
  have HJ := Lib.hid (fun w => added_any s0.1 s0.2 s.1 s.2 w (by omega) (by omega) (by omega) (by omega))
  have HV := Lib.hid (show T.joinA (K x y) s = (s0.1 + s.1, s0.2 + s.2) by rw [hk]; rfl)
  have HH := Lib.hid h
  have HX := Lib.hid hx
  obtain ⟨j1, hj1⟩ : ∃ z, s0.1 + s.1 = z := ⟨_, rfl⟩
  obtain ⟨j2, hj2⟩ : ∃ z, s0.2 + s.2 = z := ⟨_, rfl⟩
  rw [hj1, hj2] at HJ HV
  clear h hk hj1 hj2 hb
  clear hx hN hy
  go_enter Try.func101, Try.ntmps101
  go_wp2_with fail
  refine wp_region_held_drew (S := fun w' => Up w w' ∧ mblk w' w.heap.size = some (.cells #[.int .i64 x.1, .int .i64 x.2, .int .i64 y.1, .int .i64 y.2, .int .i64 s.1, .int .i64 s.2] 125 (0, 0)) ∧ mblk w' (w.heap.size + 1) = some (.cells #[.int .i64 s.1, .int .i64 s.2] 34 (0, 0))) (by kernel_rfl) ⟨U0.drew, by rw [blk_drew]; exact kt, by rw [blk_drew]; exact ks⟩ (fun hHeld => ?_)
  clear U0 kt ks
  refine takeH (i := 0) (d := (some 12)) (v := ?v55) rfl rfl (by kernel_rfl) (by kernel_rfl) (by kernel_rfl) (fun _ _ _ h => h) (by rfl) ?hy55 (by assumption) ?_
  case hy55 => ((intro w hSw; (try dsimp only at hSw); (try go_split_ands); go_simp); try with_reducible rfl)
  simp only [Act.put, List.setIfInBounds_toArray, List.set_cons_zero, List.set_cons_succ]
  refine takeH (i := 1) (d := (some 13)) (v := ?v56) rfl rfl (by kernel_rfl) (by kernel_rfl) (by kernel_rfl) (fun _ _ _ h => h) (by rfl) ?hy56 (by assumption) ?_
  case hy56 => ((intro w hSw; (try dsimp only at hSw); (try go_split_ands); go_simp); try with_reducible rfl)
  simp only [Act.put, List.setIfInBounds_toArray, List.set_cons_zero, List.set_cons_succ]
  refine takeH (i := 4) (d := (some 16)) (v := ?v57) rfl rfl (by kernel_rfl) (by kernel_rfl) (by kernel_rfl) (fun _ _ _ h => h) (by rfl) ?hy57 (by assumption) ?_
  case hy57 => ((intro w hSw; (try dsimp only at hSw); (try go_split_ands); go_simp); try with_reducible rfl)
  simp only [Act.put, List.setIfInBounds_toArray, List.set_cons_zero, List.set_cons_succ]
  refine takeH (i := 2) (d := (some 14)) (v := ?v58) rfl rfl (by kernel_rfl) (by kernel_rfl) (by kernel_rfl) (fun _ _ _ h => h) (by rfl) ?hy58 (by assumption) ?_
  case hy58 => ((intro w hSw; (try dsimp only at hSw); (try go_split_ands); go_simp); try with_reducible rfl)
  simp only [Act.put, List.setIfInBounds_toArray, List.set_cons_zero, List.set_cons_succ]
  refine takeH (i := 5) (d := (some 17)) (v := ?v59) rfl rfl (by kernel_rfl) (by kernel_rfl) (by kernel_rfl) (fun _ _ _ h => h) (by rfl) ?hy59 (by assumption) ?_
  case hy59 => ((intro w hSw; (try dsimp only at hSw); (try go_split_ands); go_simp); try with_reducible rfl)
  simp only [Act.put, List.setIfInBounds_toArray, List.set_cons_zero, List.set_cons_succ]
  refine takeH (i := 3) (d := (some 15)) (v := .map (some (g x))) rfl rfl (by kernel_rfl) (by kernel_rfl) (by kernel_rfl) (fun _ _ _ h => h) (by rfl) ?hl3 (by assumption) ?_
  case hl3 => (intro w3 hSw; have q := HO.out w3 hSw.1; go_simp)
  simp only [Act.put, List.setIfInBounds_toArray, List.set_cons_zero, List.set_cons_succ]
  refine takeH (i := 6) (d := (some 18)) (v := (.tuple #[SpV s0.1 s0.2, .bool true])) rfl rfl (by kernel_rfl) (by kernel_rfl) (by kernel_rfl) (fun _ _ _ h => h) (by rfl) ?hl6 (by assumption) ?_
  case hl6 => (intro w3 hSw; have q := HI.out w3 hSw.1; go_simp)
  simp only [Act.put, List.setIfInBounds_toArray, List.set_cons_zero, List.set_cons_succ]
  refine takeH (i := 7) (d := (some 11)) (v := ?v60) rfl rfl (by kernel_rfl) (by kernel_rfl) (by kernel_rfl) (fun _ _ _ h => h) (by rfl) ?hy60 (by assumption) ?_
  case hy60 => ((intro w hSw; (try dsimp only at hSw); (try go_split_ands); go_simp); try with_reducible rfl)
  simp only [Act.put, List.setIfInBounds_toArray, List.set_cons_zero, List.set_cons_succ]
  refine takeH (i := 8) (d := (some 19)) (v := ?v61) rfl rfl (by kernel_rfl) (by kernel_rfl) (by kernel_rfl) (fun _ _ _ h => h) (by rfl) ?hy61 (by assumption) ?_
  case hy61 => ((intro w hSw; (try dsimp only at hSw); (try go_split_ands); go_simp); try with_reducible rfl)
  simp only [Act.put, List.setIfInBounds_toArray, List.set_cons_zero, List.set_cons_succ]
  refine takeH (i := 9) (d := (some 20)) (v := ?v62) rfl rfl (by kernel_rfl) (by kernel_rfl) (by kernel_rfl) (fun _ _ _ h => h) (by rfl) ?hy62 (by assumption) ?_
  case hy62 => ((intro w hSw; (try dsimp only at hSw); (try go_split_ands); go_simp); try with_reducible rfl)
  simp only [Act.put, List.setIfInBounds_toArray, List.set_cons_zero, List.set_cons_succ]
  refine wpAnyH_ready (rs := [10]) (by kernel_rfl) (by simp) ?_
  refine AllReadyH.cons rfl (fun K hK => ?_) AllReadyH.nil
  go_simp
  obtain ⟨W1, hW1⟩ : ∃ Z, (((w.alloc (.cells #[.int .i64 x.1, .int .i64 x.2, .int .i64 y.1, .int .i64 y.2, .int .i64 s.1, .int .i64 s.2] 125)).alloc (.cells #[.int .i64 s.1, .int .i64 s.2] 34)).alloc (.cells #[.int .i64 0, .int .i64 0] 34)).drew = Z := ⟨_, rfl⟩
  have V1 : Up w W1 := by rw [← hW1]; exact ((((Up.refl w).alloc _).alloc _).alloc _).drew
  have kt1 : mblk W1 w.heap.size = some (.cells #[.int .i64 x.1, .int .i64 x.2, .int .i64 y.1, .int .i64 y.2, .int .i64 s.1, .int .i64 s.2] 125 (0, 0)) := by rw [← hW1, blk_drew]; exact blk_keep _ (blk_keep _ (blk_new w (.cells #[.int .i64 x.1, .int .i64 x.2, .int .i64 y.1, .int .i64 y.2, .int .i64 s.1, .int .i64 s.2] 125) _ rfl))
  have ks1 : mblk W1 (w.heap.size + 1) = some (.cells #[.int .i64 s.1, .int .i64 s.2] 34 (0, 0)) := by rw [← hW1, blk_drew]; exact blk_keep _ (blk_new (w.alloc (.cells #[.int .i64 x.1, .int .i64 x.2, .int .i64 y.1, .int .i64 y.2, .int .i64 s.1, .int .i64 s.2] 125)) (.cells #[.int .i64 s.1, .int .i64 s.2] 34) _ (by simp))
  have kz1 : mblk W1 (w.heap.size + 1 + 1) = some (.cells #[.int .i64 0, .int .i64 0] 34 (0, 0)) := by rw [← hW1, blk_drew]; exact blk_new ((w.alloc (.cells #[.int .i64 x.1, .int .i64 x.2, .int .i64 y.1, .int .i64 y.2, .int .i64 s.1, .int .i64 s.2] 125)).alloc (.cells #[.int .i64 s.1, .int .i64 s.2] 34)) _ _ (by simp)
  rw [hW1]
  refine hK.out _ _ ⟨V1, kt1, ks1⟩ (fun hHeld1 => ?_)
  clear hK K hHeld hW1
  have fz := frozB kz1
  have cz := cellB kz1
  have lz := blk_lt kz1
  refine wpAnyH_ready (rs := [11]) (by kernel_rfl) (by simp) ?_
  refine AllReadyH.cons rfl (fun K hK => ?_) AllReadyH.nil
  go_simp
  obtain ⟨W2, hW2⟩ : ∃ Z, (W1.setCell ⟨w.heap.size + 1 + 1, 0, none⟩ (.int .i64 s0.1)).setCell ⟨w.heap.size + 1 + 1, 1, none⟩ (.int .i64 s0.2) = Z := ⟨_, rfl⟩
  have V2 : Up w W2 := by rw [← hW2]; exact (V1.set (by show w.heap.size ≤ w.heap.size + 1 + 1; omega) _).set (by show w.heap.size ≤ w.heap.size + 1 + 1; omega) _
  have kt2 : mblk W2 w.heap.size = some (.cells #[.int .i64 x.1, .int .i64 x.2, .int .i64 y.1, .int .i64 y.2, .int .i64 s.1, .int .i64 s.2] 125 (0, 0)) := by rw [← hW2, blk_set _ _ _ _ (by show w.heap.size ≠ w.heap.size + 1 + 1; omega), blk_set _ _ _ _ (by show w.heap.size ≠ w.heap.size + 1 + 1; omega)]; exact kt1
  have ks2 : mblk W2 (w.heap.size + 1) = some (.cells #[.int .i64 s.1, .int .i64 s.2] 34 (0, 0)) := by rw [← hW2, blk_set _ _ _ _ (by show w.heap.size + 1 ≠ w.heap.size + 1 + 1; omega), blk_set _ _ _ _ (by show w.heap.size + 1 ≠ w.heap.size + 1 + 1; omega)]; exact ks1
  have kz2 : mblk W2 (w.heap.size + 1 + 1) = some (.cells #[.int .i64 s0.1, .int .i64 s0.2] 34 (0, 0)) := by rw [← hW2]; exact blk_put (blk_put kz1 0 _) 1 _
  rw [hW2]
  refine hK.out _ _ ⟨V2, kt2, ks2⟩ (fun hHeld => ?_)
  clear hK K hW2 fz cz lz kt1 ks1 kz1 V1 hHeld1
  refine takeH (i := 12) (d := (some 8)) (v := ?v65) rfl rfl (by kernel_rfl) (by kernel_rfl) (by kernel_rfl) (fun _ _ _ h => h) (by rfl) ?hy65 (by assumption) ?_
  case hy65 => ((intro w hSw; (try dsimp only at hSw); (try go_split_ands); go_simp); try with_reducible rfl)
  simp only [Act.put, List.setIfInBounds_toArray, List.set_cons_zero, List.set_cons_succ]
  refine wpAnyH_done (by kernel_rfl) ?_ _
  clear hHeld
  have fz := frozB ks2
  have lz := blk_lt ks2
  go_wp2_with fail
  refine (HJ.out _).mono ?_
  rintro e w3 ⟨rfl, u3⟩
  have kt3 := u3.blk kt2
  have ks3 := u3.blk ks2
  have V3 := V2.trans u3
  have f3 := frozB ks3
  have c3 := cellB ks3
  obtain ⟨X, hX⟩ : ∃ Z, (w3.setCell ⟨w.heap.size + 1, 0, none⟩ (.int .i64 j1)).setCell ⟨w.heap.size + 1, 1, none⟩ (.int .i64 j2) = Z := ⟨_, rfl⟩
  have VX : Up w X := by rw [← hX]; exact (V3.set (by show w.heap.size ≤ w.heap.size + 1; omega) _).set (by show w.heap.size ≤ w.heap.size + 1; omega) _
  have ktX : mblk X w.heap.size = some (.cells #[.int .i64 x.1, .int .i64 x.2, .int .i64 y.1, .int .i64 y.2, .int .i64 s.1, .int .i64 s.2] 125 (0, 0)) := by rw [← hX, blk_set _ _ _ _ (by show w.heap.size ≠ w.heap.size + 1; omega), blk_set _ _ _ _ (by show w.heap.size ≠ w.heap.size + 1; omega)]; exact kt3
  have ksX : mblk X (w.heap.size + 1) = some (.cells #[.int .i64 j1, .int .i64 j2] 34 (0, 0)) := by rw [← hX]; exact blk_put (blk_put ks3 0 _) 1 _
  go_wp2_with fail
  try rw [hX]
  clear hX f3 c3 kt3 ks3 u3 V3 fz lz kz2 kt2 ks2 V2
  have lm := HH.out.out.lt
  have lg := (HH.out.inn x HX.out).lt
  have HS5 := Lib.hid (show w.grownBy X.drew (some (g x)) ∧ mblk X.drew w.heap.size = some (.cells #[.int .i64 x.1, .int .i64 x.2, .int .i64 y.1, .int .i64 y.2, .int .i64 s.1, .int .i64 s.2] 125 (0, 0)) ∧ mblk X.drew (w.heap.size + 1) = some (.cells #[.int .i64 j1, .int .i64 j2] 34 (0, 0)) ∧ T.Out X.drew m 1000 (fun a => if a ∈ D then some (g a) else none) from ⟨up_grown VX.drew _, by rw [blk_drew]; exact ktX, by rw [blk_drew]; exact ksX, (HH.out.up VX.drew).out⟩)
  obtain ⟨w9, hrun, hI9, hg9⟩ := HP.out X.drew VX.drew (j1, j2)
  have hne := HH.out.ne x HX.out
  have hdx := HH.out.dom x HX.out
  have HG := Lib.hid (fun w' (h' : T.Out w' m 1000 (fun a => if a ∈ D then some (g a) else none)) => h'.look hdx (b := g x) (by simp [HX.out]))
  have HFIN := Lib.hid (fun (v : World) (hi : T.Inn v (g x) (N + 1) (T.upd (K x) y (j1, j2))) (hg : w.grownBy v (some (g x))) => HH.out.put HX.out hi hg)
  generalize hgx : g x = gx at *
  have HGX := Lib.hid hgx
  clear hgx
  go_wp2_with fail
  refine wp_region_held_drew (S := fun w' => w.grownBy w' (some gx) ∧ mblk w' w.heap.size = some (.cells #[.int .i64 x.1, .int .i64 x.2, .int .i64 y.1, .int .i64 y.2, .int .i64 s.1, .int .i64 s.2] 125 (0, 0)) ∧ mblk w' (w.heap.size + 1) = some (.cells #[.int .i64 j1, .int .i64 j2] 34 (0, 0)) ∧ T.Out w' m 1000 (fun a => if a ∈ D then some (g a) else none)) (by kernel_rfl) HS5.out (fun hHeld => ?_)
  clear ktX ksX HI HO
  refine takeH (i := 0) (d := (some 26)) (v := ?v66) rfl rfl (by kernel_rfl) (by kernel_rfl) (by kernel_rfl) (fun _ _ _ h => h) (by rfl) ?hy66 (by assumption) ?_
  case hy66 => ((intro w hSw; (try dsimp only at hSw); (try go_split_ands); go_simp); try with_reducible rfl)
  simp only [Act.put, List.setIfInBounds_toArray, List.set_cons_zero, List.set_cons_succ]
  refine takeH (i := 1) (d := (some 27)) (v := ?v67) rfl rfl (by kernel_rfl) (by kernel_rfl) (by kernel_rfl) (fun _ _ _ h => h) (by rfl) ?hy67 (by assumption) ?_
  case hy67 => ((intro w hSw; (try dsimp only at hSw); (try go_split_ands); go_simp); try with_reducible rfl)
  simp only [Act.put, List.setIfInBounds_toArray, List.set_cons_zero, List.set_cons_succ]
  refine takeH (i := 4) (d := (some 30)) (v := ?v68) rfl rfl (by kernel_rfl) (by kernel_rfl) (by kernel_rfl) (fun _ _ _ h => h) (by rfl) ?hy68 (by assumption) ?_
  case hy68 => ((intro w hSw; (try dsimp only at hSw); (try go_split_ands); go_simp); try with_reducible rfl)
  simp only [Act.put, List.setIfInBounds_toArray, List.set_cons_zero, List.set_cons_succ]
  refine takeH (i := 6) (d := (some 32)) (v := ?v69) rfl rfl (by kernel_rfl) (by kernel_rfl) (by kernel_rfl) (fun _ _ _ h => h) (by rfl) ?hy69 (by assumption) ?_
  case hy69 => ((intro w hSw; (try dsimp only at hSw); (try go_split_ands); go_simp); try with_reducible rfl)
  simp only [Act.put, List.setIfInBounds_toArray, List.set_cons_zero, List.set_cons_succ]
  refine takeH (i := 2) (d := (some 28)) (v := ?v70) rfl rfl (by kernel_rfl) (by kernel_rfl) (by kernel_rfl) (fun _ _ _ h => h) (by rfl) ?hy70 (by assumption) ?_
  case hy70 => ((intro w hSw; (try dsimp only at hSw); (try go_split_ands); go_simp); try with_reducible rfl)
  simp only [Act.put, List.setIfInBounds_toArray, List.set_cons_zero, List.set_cons_succ]
  refine takeH (i := 5) (d := (some 31)) (v := ?v71) rfl rfl (by kernel_rfl) (by kernel_rfl) (by kernel_rfl) (fun _ _ _ h => h) (by rfl) ?hy71 (by assumption) ?_
  case hy71 => ((intro w hSw; (try dsimp only at hSw); (try go_split_ands); go_simp); try with_reducible rfl)
  simp only [Act.put, List.setIfInBounds_toArray, List.set_cons_zero, List.set_cons_succ]
  refine takeH (i := 3) (d := (some 29)) (v := .map (some gx)) rfl rfl (by kernel_rfl) (by kernel_rfl) (by kernel_rfl) (fun _ _ _ h => h) (by rfl) ?hl3 (by assumption) ?_
  case hl3 => (intro w3 hSw; have q := HG.out w3 hSw.2.2.2; go_simp)
  simp only [Act.put, List.setIfInBounds_toArray, List.set_cons_zero, List.set_cons_succ]
  have hrun' : (Instr.mapUpdate 141 (.map (some gx)) (MoV y.1 y.2) (SpV j1 j2)).run Try.prog X.drew = .ok () w9 := hrun
  clear hrun
  refine wpAnyH_ready (rs := [7]) (by kernel_rfl) (by simp) ?_
  refine AllReadyH.cons rfl (fun K hK => ?_) AllReadyH.nil
  go_simp
  refine hK.out _ _ ⟨grown_trans hHeld.1 hg9, (hg9.block _ (blk_lt hHeld.2.1) (fun e => by have := Option.some.inj e; omega)).trans hHeld.2.1, (hg9.block _ (blk_lt hHeld.2.2.1) (fun e => by have := Option.some.inj e; omega)).trans hHeld.2.2.1, hHeld.2.2.2.same (hg9.block _ hHeld.2.2.2.lt (fun e => hne (Option.some.inj e).symm))⟩ (fun hHeld2 => ?_)
  clear hK K hrun'
  refine wpAnyH_done (by kernel_rfl) ?_ _
  have hfin := hHeld2.1
  clear hHeld2
  go_wp2
  go_end0
  exact ⟨rfl, by rw [HV.out]; exact HFIN.out _ hI9 hfin, by rw [HGX.out]; exact hfin⟩

end Go.Proofs.Ytcmdaiklkdeanaa
