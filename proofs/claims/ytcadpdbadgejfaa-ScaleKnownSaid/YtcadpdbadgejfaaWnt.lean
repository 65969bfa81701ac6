import Derived.Test.YtcadpdbadgejfaaMor
/- The contract of the laws' went: what truly was, as numbers choose it, and the book of what was seen. -/
namespace Go.Proofs.Ytcadpdbadgejfaa
open Go.RowKit

/-- what the offsets were up to a tick -/
structure S.Was (b : S.Bk) (vs : List Int) (t : Nat) : Prop where
  len : vs.length = t + 1
  fine : ∀ k, k ≤ t → -20000 ≤ vs.getD k 0 ∧ vs.getD k 0 ≤ 20000
  step : ∀ k, k < t → b.cL k ≤ vs.getD (k + 1) 0 - vs.getD k 0 ∧ vs.getD (k + 1) 0 - vs.getD k 0 ≤ b.cH k
theorem S.Was.start (b : S.Bk) {x : Int} (h1 : -20000 ≤ x) (h2 : x ≤ 20000) : S.Was b [x] 0 :=
  ⟨rfl, fun k hk => by obtain rfl : k = 0 := by omega
                       exact ⟨h1, h2⟩, fun k hk => by omega⟩
theorem S.getD_app_l {vs : List Int} {x : Int} {k : Nat} (h : k < vs.length) : (vs ++ [x]).getD k 0 = vs.getD k 0 := by
  rw [List.getD_eq_getElem?_getD, List.getElem?_append_left h, ← List.getD_eq_getElem?_getD]
theorem S.getD_app_r {vs : List Int} {x : Int} : (vs ++ [x]).getD vs.length 0 = x := by
  rw [List.getD_eq_getElem?_getD, List.getElem?_append_right (Nat.le_refl _), Nat.sub_self]
  rfl
theorem S.Was.next {b : S.Bk} {vs : List Int} {t : Nat} (h : S.Was b vs t) {x : Int} (h1 : -20000 ≤ x) (h2 : x ≤ 20000) (h3 : b.cL t ≤ x - vs.getD t 0) (h4 : x - vs.getD t 0 ≤ b.cH t) : S.Was b (vs ++ [x]) (t + 1) := by
  have hl := h.len
  have er : (vs ++ [x]).getD (t + 1) 0 = x := by rw [← hl]; exact S.getD_app_r
  refine ⟨by rw [List.length_append, hl]; rfl, fun k hk => ?_, fun k hk => ?_⟩
  · by_cases e : k = t + 1
    · subst e; rw [er]; exact ⟨h1, h2⟩
    · rw [S.getD_app_l (by omega)]; exact h.fine k (by omega)
  · by_cases e : k = t
    · subst e
      rw [er, S.getD_app_l (by omega)]
      exact ⟨h3, h4⟩
    · rw [S.getD_app_l (by omega), S.getD_app_l (by omega)]; exact h.step k (by omega)
/-- the first looks, seen anew -/
structure S.Saw (T : Int) (vs : List Int) (ls : List (Int × Int × Int)) (k : Nat) : Prop where
  len : ls.length = k
  ok : ∀ l ∈ ls, S.lookOk T l = true
  at_ : ∀ l ∈ ls, ∀ i : Nat, l.1 = (i : Int) → l.2.1 ≤ vs.getD i 0 ∧ vs.getD i 0 ≤ l.2.2
theorem S.Saw.start (T : Int) (vs : List Int) : S.Saw T vs [] 0 := ⟨rfl, fun l h => by simp at h, fun l h => by simp at h⟩
theorem S.Saw.next {T : Int} {vs : List Int} {ls : List (Int × Int × Int)} {k : Nat} (h : S.Saw T vs ls k) {t : Nat} (ht : (t : Int) ≤ T) {l u : Int} (v1 : -20000 ≤ vs.getD t 0) (v2 : vs.getD t 0 ≤ 20000) (h1 : l ≤ vs.getD t 0) (h2 : vs.getD t 0 ≤ u) : S.Saw T vs (ls ++ [((t : Int), max (-20000) l, min 20000 u)]) (k + 1) := by
  refine ⟨by rw [List.length_append, h.len]; rfl, fun z hz => ?_, fun z hz i e => ?_⟩
  · rcases List.mem_append.1 hz with q | q
    · exact h.ok z q
    · rw [List.mem_singleton] at q
      subst q
      show (inB (t : Int) 0 T && S.spanOk (max (-20000) l) (min 20000 u) 20000) = true
      rw [inB_yes (by omega) ht, Bool.true_and]
      exact S.spanOk_iff.2 (by omega)
  · rcases List.mem_append.1 hz with q | q
    · exact h.at_ z q i e
    · rw [List.mem_singleton] at q
      subst q
      have e' : t = i := by have : (t : Int) = (i : Int) := e; omega
      subst e'
      show max (-20000) l ≤ _ ∧ _ ≤ min 20000 u
      omega
theorem S.Saw.tru {dl dh : Int} {T : Nat} {xs vs : List Int} {ls ls' : List (Int × Int × Int)} (hW : S.Was (S.bk dl dh T xs ls) vs T) (hS : S.Saw T vs ls' ls.length) : (S.bk dl dh T xs ls').Tru (fun i => vs.getD i 0) := by
  refine ⟨fun i hi => hW.fine i (by have : i ≤ (T : Int).toNat := hi; omega), fun i hi l hl e => hS.at_ l hl i e, fun i hi => hW.step i (by have : i < (T : Int).toNat := hi; omega)⟩

theorem row_put8 {W : World} {base size n : Nat} {e : TypeId} {v : Value} {xs : List Value} (h : W.ownsRow base e size v n xs) {p : Nat} (hp : v.ownBlock ≠ some p) (v0 v1 v2 v3 v4 v5 v6 v7 : Value) : (((((((((((((((W.setCell ⟨p, 0, none⟩ v0)).setCell ⟨p, 1, none⟩ v1)).setCell ⟨p, 2, none⟩ v2)).setCell ⟨p, 3, none⟩ v3)).setCell ⟨p, 4, none⟩ v4)).setCell ⟨p, 5, none⟩ v5)).setCell ⟨p, 6, none⟩ v6)).setCell ⟨p, 7, none⟩ v7).ownsRow base e size v n xs :=
  (ownsRow_setCell_other (ownsRow_setCell_other (ownsRow_setCell_other (ownsRow_setCell_other (ownsRow_setCell_other (ownsRow_setCell_other (ownsRow_setCell_other (ownsRow_setCell_other h (a := ⟨p, 0, none⟩) hp v0) (a := ⟨p, 1, none⟩) hp v1) (a := ⟨p, 2, none⟩) hp v2) (a := ⟨p, 3, none⟩) hp v3) (a := ⟨p, 4, none⟩) hp v4) (a := ⟨p, 5, none⟩) hp v5) (a := ⟨p, 6, none⟩) hp v6) (a := ⟨p, 7, none⟩) hp v7)
theorem cell_three_new (w : World) (x y z : Value) (t : TypeId) : ∀ j u, [x, y, z][j]? = some u → (w.alloc (.cells #[x, y, z] t)).cell? ((⟨w.heap.size, 0, none⟩ : Addr).add j) = some u := by
  intro j u h
  rw [D.add_at, Nat.zero_add, cellB (blk_new w (.cells #[x, y, z] t) _ rfl) j]
  simpa using h
section
variable {f s j dl dh : Int} {a a' : Option Addr} {n c n' c' : Nat} {xs : List Int} {ls : List (Int × Int × Int)}
set_option maxRecDepth 100000 in
set_option maxHeartbeats 8000000 in
set_option linter.unusedSimpArgs false in
theorem l_went_any {T : Nat} {bv : Value} {bits : List Int} {w : World} (hb : S.bookOk f s j dl dh T xs ls = true) (I : Ints w (.slice a n c) xs) (I' : Lks w (.slice a' ls.length c') ls) (IB : Ints w bv bits) : Calls Try.prog 51 #[BV f s j dl dh T (.slice a n c) (.slice a' ls.length c'), bv] w fun e w' => Up w w' ∧ (e = .returned (.tuple #[.slice none 0 0, BV f s j dl dh T (.slice a n c) (.slice a' ls.length c'), .bool false]) ∨ (∃ av cv ax cx vs ls', e = .returned (.tuple #[.slice av (T + 1) cv, BV f s j dl dh T (.slice a n c) (.slice ax ls.length cx), .bool true]) ∧ Ints w' (.slice av (T + 1) cv) vs ∧ vs.length = T + 1 ∧ Lks w' (.slice ax ls.length cx) ls' ∧ ls'.length = ls.length ∧ S.bookOk f s j dl dh T xs ls' = true ∧ (S.bk dl dh T xs ls').Tru (fun i => vs.getD i 0))) := by
  have U0 := (((Up.refl w).alloc (.cells (BC f s j dl dh T (.slice a n c) (.slice a' ls.length c')) 44)).alloc (.cells BCZ 44)).alloc (.cells (BC f s j dl dh T (.slice a n c) (.slice none 0 0)) 44)
  have k2 := blk_keep (.cells (BC f s j dl dh T (.slice a n c) (.slice none 0 0)) 44) (blk_keep (.cells BCZ 44) (blk_new w (.cells (BC f s j dl dh T (.slice a n c) (.slice a' ls.length c')) 44) _ rfl))
  have k5 := blk_keep (.cells (BC f s j dl dh T (.slice a n c) (.slice none 0 0)) 44) (blk_new (w.alloc (.cells (BC f s j dl dh T (.slice a n c) (.slice a' ls.length c')) 44)) (.cells BCZ 44) (w.heap.size + 1) (by simp))
  have x7 := blk_new ((w.alloc (.cells (BC f s j dl dh T (.slice a n c) (.slice a' ls.length c')) 44)).alloc (.cells BCZ 44)) (.cells (BC f s j dl dh T (.slice a n c) (.slice none 0 0)) 44) (w.heap.size + 1 + 1) (by simp)
  have HT0 := Lib.hid (fun w => B_To_any (-500) 500 w)
  have HA := Lib.hid (fun w' (u : Up w w') n => B_At_any (IB.up u) n)
  have HI := Lib.hid (fun w' (u : Up w w') => I.up u)
  have HI' := Lib.hid (fun w' (u : Up w w') => I'.up u)
  have HLn := Lib.hid I.len
  obtain ⟨g1, ⟨g2, g3⟩, ⟨g4, g5⟩, g6, g7⟩ := S.bookOk_iff.1 hb
  obtain ⟨⟨f1, f2⟩, ⟨s1, s2⟩, j1, d1, d2, d3⟩ := S.ok_iff.1 g1
  have HXs := Lib.hid (fun k (hk : k < xs.length) => show -500 ≤ xs.getD k 0 ∧ xs.getD k 0 ≤ 500 by have := S.keeps_bd xs 0 g5 k hk; omega)
  have HKs := Lib.hid (fun k (hk : k < ls.length) => show S.lookOk T (ls.getD k (0, 0, 0)) = true by
    rw [List.getD_eq_getElem?_getD, List.getElem?_eq_getElem hk]
    exact List.all_eq_true.1 g7 _ (List.getElem_mem hk))
  have HFin := Lib.hid (fun vs ls' (hW : S.Was (S.bk dl dh T xs ls) vs T) (hS : S.Saw T vs ls' ls.length) => (⟨S.book_looks hb (by rw [hS.len]; exact g6) hS.ok, S.Saw.tru hW hS⟩ : S.bookOk f s j dl dh T xs ls' = true ∧ (S.bk dl dh T xs ls').Tru (fun i => vs.getD i 0)))
  have hl63 := I'.len.2
  obtain ⟨bk, hbk⟩ : ∃ b, S.bk dl dh T xs ls = b := ⟨_, rfl⟩
  rw [hbk] at HFin
  have HcL := Lib.hid (show ∀ k, bk.cL k = xs.getD k 0 + dl by rw [← hbk]; intro k; rfl)
  have HcH := Lib.hid (show ∀ k, bk.cH k = xs.getD k 0 + dh by rw [← hbk]; intro k; rfl)
  have x0b := S.frm_in (show (-500 : Int) ≤ 500 by omega) (S.at bits 1)
  have HF0 := Lib.hid (fun w => B_From_any (-500) 500 (S.at bits 1) w (by omega) (by omega) (by omega) (by omega))
  obtain ⟨x0, hx0⟩ : ∃ x, S.frm (-500) 500 (S.at bits 1) = x := ⟨_, rfl⟩
  rw [hx0] at HF0 x0b
  have HA1 := Lib.hid (fun w' (u : Up w w') => HA.out w' u 1)
  generalize S.at bits 1 = a1v at *
  obtain ⟨i0, hi, hz0, hz1, hz2⟩ := info_parts Try.infoInt
  have hU := Try.underlying26
  clear I I' hb hbk g1 g5 g7 j1 IB hx0 f1 f2 s1 s2
  go_enter Try.func51, Try.ntmps51
  go_wp2_with fail
  refine (HT0.out _).mono ?_
  rintro e w1 ⟨rfl, u1⟩
  replace k2 := u1.blk k2
  replace k5 := u1.blk k5
  replace x7 := u1.blk x7
  replace U0 := U0.trans u1
  clear u1 HT0
  go_wp2_with fail
  refine (HA1.out _ U0).mono ?_
  rintro e w2 ⟨rfl, rfl⟩
  clear HA1
  go_wp2_with fail
  refine (HF0.out _).mono ?_
  rintro e w3 ⟨rfl, u3⟩
  replace k2 := u3.blk k2
  replace k5 := u3.blk k5
  replace x7 := u3.blk x7
  replace U0 := U0.trans u3
  clear u3 HF0
  have R0 := World.ownsRow_lit (base := w3.heap.size) (e := 3) (size := 1) w3 #[.int .i64 x0] 1 (Nat.le_refl _) (by unfold maxLen; omega) rfl
  have l2 := blk_lt k2
  have l5 := blk_lt k5
  have l7 := blk_lt x7
  have A4 := Up.alloc (Up.refl w3) (.cells #[.int .i64 x0] 3)
  have k24 := Up.blk A4 k2
  have k54 := Up.blk A4 k5
  have x74 := Up.blk A4 x7
  have U4 := U0.trans A4
  have s4 := Up.size A4
  obtain ⟨q, hq⟩ : ∃ q, w3.heap.size = q := ⟨_, rfl⟩
  obtain ⟨W4, hW4⟩ : ∃ W, w3.alloc (.cells #[.int .i64 x0] 3) = W := ⟨_, rfl⟩
  rw [hq] at R0 l2 l5 l7 s4
  rw [hW4] at R0 k24 k54 x74 U4 s4
  clear k2 k5 x7 U0 A4
  go_wp2_with fail
  try rw [hW4]
  try rw [hq]
  clear hW4 hq
  go_loopw [8, 9, 10] (fun nw l i wr => ∃ (t : Nat) (vs : List Int) (x : Int), t ≤ T ∧ i = .int .i64 t ∧ nw = .int .i64 x ∧ x = vs.getD t 0 ∧ Hid (S.Was bk vs t) ∧ Up w wr ∧ mblk wr w.heap.size = some (.cells (BC f s j dl dh T (.slice a n c) (.slice a' ls.length c')) 44 (0, 0)) ∧ mblk wr (w.heap.size + 1) = some (.cells BCZ 44 (0, 0)) ∧ mblk wr (w.heap.size + 1 + 1) = some (.cells (BC f s j dl dh T (.slice a n c) (.slice none 0 0)) 44 (0, 0)) ∧ wr.ownsRow q 3 1 l (t + 1) (vs.map (Value.int .i64)) ∧ q ≤ wr.heap.size) (fun _ _ i _ => T - (intOf i).toNat)
  case atStart => exact ⟨0, [x0], x0, Nat.zero_le _, rfl, rfl, rfl, S.Was.start bk (by omega) (by omega), U4, k24, k54, x74, by simpa using R0, s4⟩
  case round =>
    clear R0 k24 k54 x74 U4 s4
    obtain ⟨t, vs, x, ht, rfl, rfl, hx, hW, V, k2, k5, x7, hown, hqs⟩ := hrel
    have HX := Lib.hid hx
    have xb := hW.out.fine t (Nat.le_refl _)
    rw [← hx] at xb
    clear hx
    by_cases hlt : t < T
    · have hlt' : (t : Int) < (T : Int) := by omega
      have w2 : IntKind.i64.wrap ((t : Int) + 2) = (t : Int) + 2 := IntWalk.i64_in _ (by omega)
      have HAt := Lib.hid (fun w' (u : Up w w') => HA.out w' u ((t : Int) + 2))
      have yb := S.frm_in (show dl ≤ dh by omega) (S.at bits ((t : Int) + 2))
      have HFr := Lib.hid (fun w => B_From_any dl dh (S.at bits ((t : Int) + 2)) w (by omega) (by omega) (by omega) (by omega))
      obtain ⟨y, hy⟩ : ∃ x, S.frm dl dh (S.at bits ((t : Int) + 2)) = x := ⟨_, rfl⟩
      rw [hy] at HFr yb
      generalize S.at bits ((t : Int) + 2) = av at *
      have wx : IntKind.i64.wrap (x + y) = x + y := IntWalk.i64_in _ (by omega)
      obtain ⟨x1, hx1⟩ : ∃ z, x + y = z := ⟨_, rfl⟩
      rw [hx1] at wx
      clear hy
      go_wp2_with fail
      refine wp_region_held_drew (S := fun w' => (Up w w' ∧ mblk w' (w.heap.size + 1) = some (.cells BCZ 44 (0, 0)) ∧ mblk w' (w.heap.size + 1 + 1) = some (.cells (BC f s j dl dh T (.slice a n c) (.slice none 0 0)) 44 (0, 0)) ∧ w'.ownsRow q 3 1 u9 (t + 1) (vs.map (Value.int .i64)) ∧ q ≤ w'.heap.size) ∧ mblk w' w.heap.size = some (.cells (BC f s j dl dh T (.slice a n c) (.slice a' ls.length c')) 44 (0, 0))) (by kernel_rfl) ⟨⟨V.drew, by rw [blk_drew]; exact k5, by rw [blk_drew]; exact x7, row_up hown (Up.refl _).drew, hqs⟩, by rw [blk_drew]; exact k2⟩ (fun hHeld => ?_)
      clear V k2 k5 x7 hown hqs
      refine takeH (i := 0) (d := (some 29)) (v := ?v1) rfl rfl (by kernel_rfl) (by kernel_rfl) (by kernel_rfl) (fun _ _ _ h => h) (by rfl) ?hy1 (by assumption) ?_
      case hy1 => ((intro w hSw; (try dsimp only at hSw); (try go_split_ands); go_simp); try with_reducible rfl)
      simp only [Act.put, List.setIfInBounds_toArray, List.set_cons_zero, List.set_cons_succ]
      refine takeH (i := 1) (d := (some 30)) (v := ?v2) rfl rfl (by kernel_rfl) (by kernel_rfl) (by kernel_rfl) (fun _ _ _ h => h) (by rfl) ?hy2 (by assumption) ?_
      case hy2 => ((intro w hSw; (try dsimp only at hSw); (try go_split_ands); go_simp); try with_reducible rfl)
      simp only [Act.put, List.setIfInBounds_toArray, List.set_cons_zero, List.set_cons_succ]
      refine takeH (i := 4) (d := (some 33)) (v := ?v3) rfl rfl (by kernel_rfl) (by kernel_rfl) (by kernel_rfl) (fun _ _ _ h => h) (by rfl) ?hy3 (by assumption) ?_
      case hy3 => ((intro w hSw; (try dsimp only at hSw); (try go_split_ands); go_simp); try with_reducible rfl)
      simp only [Act.put, List.setIfInBounds_toArray, List.set_cons_zero, List.set_cons_succ]
      refine takeH (i := 5) (d := (some 34)) (v := ?v4) rfl rfl (by kernel_rfl) (by kernel_rfl) (by kernel_rfl) (fun _ _ _ h => h) (by rfl) ?hy4 (by assumption) ?_
      case hy4 => ((intro w hSw; (try dsimp only at hSw); (try go_split_ands); go_simp); try with_reducible rfl)
      simp only [Act.put, List.setIfInBounds_toArray, List.set_cons_zero, List.set_cons_succ]
      refine takeH (i := 2) (d := (some 31)) (v := ?v5) rfl rfl (by kernel_rfl) (by kernel_rfl) (by kernel_rfl) (fun _ _ _ h => h) (by rfl) ?hy5 (by assumption) ?_
      case hy5 => ((intro w hSw; (try dsimp only at hSw); (try go_split_ands); go_simp); try with_reducible rfl)
      simp only [Act.put, List.setIfInBounds_toArray, List.set_cons_zero, List.set_cons_succ]
      refine takeH (i := 6) (d := (some 35)) (v := ?v6) rfl rfl (by kernel_rfl) (by kernel_rfl) (by kernel_rfl) (fun _ _ _ h => h) (by rfl) ?hy6 (by assumption) ?_
      case hy6 => ((intro w hSw; (try dsimp only at hSw); (try go_split_ands); go_simp); try with_reducible rfl)
      simp only [Act.put, List.setIfInBounds_toArray, List.set_cons_zero, List.set_cons_succ]
      refine takeH (i := 3) (d := (some 32)) (v := ?v7) rfl rfl (by kernel_rfl) (by kernel_rfl) (by kernel_rfl) (fun _ _ _ h => h) (by rfl) ?hy7 (by assumption) ?_
      case hy7 => ((intro w hSw; (try dsimp only at hSw); (try go_split_ands); go_simp); try with_reducible rfl)
      simp only [Act.put, List.setIfInBounds_toArray, List.set_cons_zero, List.set_cons_succ]
      refine wpAnyH_ready (rs := [7]) (by kernel_rfl) (by simp) ?_
      refine AllReadyH.cons rfl (fun K hK => ?_) AllReadyH.nil
      go_simp
      refine (HAt.out _ hHeld.1.1).mono ?_
      rintro e w5 ⟨rfl, rfl⟩
      go_wp2_with fail
      refine hK.out _ _ hHeld (fun hHeld => ?_)
      clear hK K HAt
      refine wpAnyH_ready (rs := [8]) (by kernel_rfl) (by simp) ?_
      refine AllReadyH.cons rfl (fun K hK => ?_) AllReadyH.nil
      go_simp
      refine (HFr.out _).mono ?_
      rintro e w5 ⟨rfl, u5⟩
      go_wp2_with fail
      refine hK.out _ _ ⟨⟨hHeld.1.1.trans u5, u5.blk hHeld.1.2.1, u5.blk hHeld.1.2.2.1, row_up hHeld.1.2.2.2.1 u5, Nat.le_trans hHeld.1.2.2.2.2 u5.size⟩, u5.blk hHeld.2⟩ (fun hHeld => ?_)
      clear hK K HFr u5
      refine takeH (i := 9) (d := (some 38)) (v := ?v10) rfl rfl (by kernel_rfl) (by kernel_rfl) (by kernel_rfl) (fun _ _ _ h => h) (by rfl) ?hy10 (by assumption) ?_
      case hy10 => ((intro w hSw; (try dsimp only at hSw); (try go_split_ands); go_simp); try with_reducible rfl)
      simp only [Act.put, List.setIfInBounds_toArray, List.set_cons_zero, List.set_cons_succ]
      refine takeH (i := 10) (d := (some 8)) (v := ?v11) rfl rfl (by kernel_rfl) (by kernel_rfl) (by kernel_rfl) (fun _ _ _ h => h) (by rfl) ?hy11 (by assumption) ?_
      case hy11 => ((intro w hSw; (try dsimp only at hSw); (try go_split_ands); go_simp); try with_reducible rfl)
      simp only [Act.put, List.setIfInBounds_toArray, List.set_cons_zero, List.set_cons_succ]
      refine wpAnyH_done (by kernel_rfl) ?_ _
      obtain ⟨⟨V, k5, x7, hown, hqs⟩, k2⟩ := hHeld
      by_cases hk : t < xs.length
      · have hk' : (t : Int) < (n : Int) := by have := HLn.out; omega
        have hxb := HXs.out t hk
        obtain ⟨a2, c2, e2, _, _, hm2⟩ := (HI.out w (Up.refl w)).is
        injection e2 with e2 e3 e4
        subst e2 e4
        clear e3
        obtain ⟨ga, oa, rfl, gal, hca⟩ := hm2 (by omega)
        have cxx := V.cell2 (hca t hk)
        have hcl := HcL.out t
        have hch := HcH.out t
        obtain ⟨xv, hxv⟩ : ∃ x, xs.getD t 0 = x := ⟨_, rfl⟩
        rw [hxv] at cxx hxb hcl hch
        have w3' : IntKind.i64.wrap (x1 + xv) = x1 + xv := IntWalk.i64_in _ (by omega)
        obtain ⟨x2, hx2⟩ : ∃ z, x1 + xv = z := ⟨_, rfl⟩
        rw [hx2] at w3'
        have HN := Lib.hid (fun (h1 : -20000 ≤ x2) (h2 : x2 ≤ 20000) => hW.out.next h1 h2 (by rw [hcl, ← HX.out]; omega) (by rw [hch, ← HX.out]; omega))
        clear hm2 hca hxv hcl hch
        have HLe := Lib.hid (fun w => B_Lies_any x2 (-20000) 20000 w)
        cases hin : inB x2 (-20000) 20000 with
        | false =>
          rw [hin] at HLe
          clear HN hin
          go_wp2_with fail
          refine (HLe.out _).mono ?_
          rintro e w6 ⟨rfl, rfl⟩
          clear HLe
          go_wp2_with fail
          have zf := frozB k5
          refine (wpIn_wide (n := 5)).1 ?_
          refine wpIn_nrm ?_
          refine regionG (fun w' => Up w w' ∧ mblk w' w.heap.size = some (.cells (BC f s j dl dh T (.slice (some ⟨ga, oa, none⟩) n c) (.slice a' ls.length c')) 44 (0, 0)) ∧ mblk w' (w.heap.size + 1) = some (.cells BCZ 44 (0, 0))) 2 (by kernel_rfl) ⟨V.drew, by rw [blk_drew]; exact k2, by rw [blk_drew]; exact k5⟩ (fun hHeld hCl => ?_)
          refine takeG (i := 0) (d := (some 54)) (v := ?v12) rfl rfl (by kernel_rfl) (by kernel_rfl) (by decide) hCl (by kernel_rfl) (by kernel_rfl) (by kernel_rfl) (fun _ _ _ h => h) (by rfl) ?hy12 (fun _ _ _ => trivial) (by assumption) (fun hCl' => ?_)
          case hy12 => ((intro w hSw; (try dsimp only at hSw); (try go_split_ands); go_simp); try with_reducible rfl)
          simp only [Act.put, List.setIfInBounds_toArray, List.set_cons_zero, List.set_cons_succ]
          replace hCl := hCl'; clear hCl'
          refine takeG (i := 1) (d := (some 4)) (v := ?v13) rfl rfl (by kernel_rfl) (by kernel_rfl) (by decide) hCl (by kernel_rfl) (by kernel_rfl) (by kernel_rfl) (fun _ _ _ h => h) (by rfl) ?hy13 (fun _ _ _ => trivial) (by assumption) (fun hCl' => ?_)
          case hy13 => ((intro w hSw; (try dsimp only at hSw); (try go_split_ands); go_simp); try with_reducible rfl)
          simp only [Act.put, List.setIfInBounds_toArray, List.set_cons_zero, List.set_cons_succ]
          replace hCl := hCl'; clear hCl'
          obtain ⟨V6, _, z6⟩ := hHeld
          have zf2 := frozB z6
          clear hCl
          refine lastG (i := 2) (by kernel_rfl) rfl (by rfl) (by decide) (fun K hK => ?_)
          go_simp
          obtain ⟨Z, hZ⟩ : ∃ X, (((((((((((((((w5.setCell ⟨w.heap.size + 1, 0, none⟩ (.int .i64 f))).setCell ⟨w.heap.size + 1, 1, none⟩ (.int .i64 s))).setCell ⟨w.heap.size + 1, 2, none⟩ (.int .i64 j))).setCell ⟨w.heap.size + 1, 3, none⟩ (.int .i64 dl))).setCell ⟨w.heap.size + 1, 4, none⟩ (.int .i64 dh))).setCell ⟨w.heap.size + 1, 5, none⟩ (.int .i64 T))).setCell ⟨w.heap.size + 1, 6, none⟩ (.slice (some ⟨ga, oa, none⟩) n c))).setCell ⟨w.heap.size + 1, 7, none⟩ (.slice a' ls.length c')).drew = X := ⟨_, rfl⟩
          have z8 : mblk Z (w.heap.size + 1) = some (.cells (BC f s j dl dh T (.slice (some ⟨ga, oa, none⟩) n c) (.slice a' ls.length c')) 44 (0, 0)) := by rw [← hZ, blk_drew]; exact put8_same k5 (.int .i64 f) (.int .i64 s) (.int .i64 j) (.int .i64 dl) (.int .i64 dh) (.int .i64 T) (.slice (some ⟨ga, oa, none⟩) n c) (.slice a' ls.length c')
          have V8 : Up w Z := by rw [← hZ]; exact Up.drew (Up.put8 V (show w.heap.size ≤ w.heap.size + 1 by omega) (.int .i64 f) (.int .i64 s) (.int .i64 j) (.int .i64 dl) (.int .i64 dh) (.int .i64 T) (.slice (some ⟨ga, oa, none⟩) n c) (.slice a' ls.length c'))
          try rw [hZ]
          refine hK.out _ _ ?_
          clear hK K hZ k2 k5 x7 hown hqs V V6 z6 zf zf2
          try simp only [Act.put, List.setIfInBounds_toArray, List.set_cons_zero, List.set_cons_succ]
          refine lastG (i := 3) (by kernel_rfl) rfl (by rfl) (by decide) (fun K hK => ?_)
          go_simp
          refine hK.out _ _ ?_
          clear hK K
          refine doneG (by kernel_rfl) ?_ _
          refine S.nrm_intro ?_
          have C := Lib.hid (cellB z8)
          clear z8
          go_wp2_with fail
          have cc := C.out
          exact bodyPost_ret (v := .tuple #[.slice none 0 0, BV f s j dl dh T (.slice (some ⟨ga, oa, none⟩) n c) (.slice a' ls.length c'), .bool false]) (by simp [results, Try.results51, go_sem, cc]) rfl ⟨V8, .inl rfl⟩
        | true =>
          rw [hin] at HLe
          have hin' := inB_iff.1 hin
          have HN2 := Lib.hid (HN.out hin'.1 hin'.2)
          have hvl := hW.out.len
          have HXn := Lib.hid (show x2 = (vs ++ [x2]).getD (t + 1) 0 by rw [← hvl]; exact S.getD_app_r.symm)
          clear HN hin
          go_wp2_with fail
          refine (HLe.out _).mono ?_
          rintro e w6 ⟨rfl, rfl⟩
          clear HLe
          have lw := blk_lt k2
          have lw5 := blk_lt k5
          have lw7 := blk_lt x7
          go_wp2_with (at_builtin; refine wpList_append_own _ rfl (.tmp 55) (.tmp 57) 26 rfl q 3 i0 (.int .i64 0) 1 8 hU hi hz0 hz1 hz2 rfl (by decide) _ (t + 1) _ rfl (hown.alloc _) ⟨w5.heap.size, 0, none⟩ 1 1 [.int .i64 x2] rfl rfl (cell_one_new _ _ _) (by simp [Value.oneCell']) (by unfold maxLen; omega) (by omega) (by simp; omega) ?_; intro v' w6 hown6 hgrow6 hv6)
          have A6 := Up.alloc (Up.refl w5) (.cells #[.int .i64 x2] 3)
          have e2 := grown_blk hgrow6 (blk_keep _ k2) (row_block hown l2)
          have e5 := grown_blk hgrow6 (blk_keep _ k5) (row_block hown l5)
          have e7 := grown_blk hgrow6 (blk_keep _ x7) (row_block hown l7)
          have V6 : Up w w6 := (V.alloc _).grown hgrow6 (fun k e => by have := row_base hown k e; omega)
          have hq6 : q ≤ w6.heap.size := by have := hgrow6.size; simp at this; omega
          go_roundw
          case rel => exact ⟨t + 1, vs ++ [x2], x2, by omega, by go_num, rfl, HXn.out, HN2.out, V6, e2, e5, e7, by rw [List.map_append]; exact hown6, hq6⟩
          case measure => (simp [intOf]; try omega)
      · have hk' : ¬ (t : Int) < (n : Int) := by have := HLn.out; omega
        have hxz : xs.getD t 0 = 0 := by rw [List.getD_eq_getElem?_getD, List.getElem?_eq_none (by omega)]; rfl
        have hcl := HcL.out t
        have hch := HcH.out t
        rw [hxz] at hcl hch
        obtain ⟨x2, hx2⟩ : ∃ z, x1 = z := ⟨_, rfl⟩
        subst hx2
        have HN := Lib.hid (fun (h1 : -20000 ≤ x1) (h2 : x1 ≤ 20000) => hW.out.next h1 h2 (by rw [hcl, ← HX.out]; omega) (by rw [hch, ← HX.out]; omega))
        clear hxz hcl hch
        have HLe := Lib.hid (fun w => B_Lies_any x1 (-20000) 20000 w)
        cases hin : inB x1 (-20000) 20000 with
        | false =>
          rw [hin] at HLe
          clear HN hin
          go_wp2_with fail
          refine (HLe.out _).mono ?_
          rintro e w6 ⟨rfl, rfl⟩
          clear HLe
          go_wp2_with fail
          have zf := frozB k5
          refine (wpIn_wide (n := 5)).1 ?_
          refine wpIn_nrm ?_
          refine regionG (fun w' => Up w w' ∧ mblk w' w.heap.size = some (.cells (BC f s j dl dh T (.slice a n c) (.slice a' ls.length c')) 44 (0, 0)) ∧ mblk w' (w.heap.size + 1) = some (.cells BCZ 44 (0, 0))) 2 (by kernel_rfl) ⟨V.drew, by rw [blk_drew]; exact k2, by rw [blk_drew]; exact k5⟩ (fun hHeld hCl => ?_)
          refine takeG (i := 0) (d := (some 54)) (v := ?v16) rfl rfl (by kernel_rfl) (by kernel_rfl) (by decide) hCl (by kernel_rfl) (by kernel_rfl) (by kernel_rfl) (fun _ _ _ h => h) (by rfl) ?hy16 (fun _ _ _ => trivial) (by assumption) (fun hCl' => ?_)
          case hy16 => ((intro w hSw; (try dsimp only at hSw); (try go_split_ands); go_simp); try with_reducible rfl)
          simp only [Act.put, List.setIfInBounds_toArray, List.set_cons_zero, List.set_cons_succ]
          replace hCl := hCl'; clear hCl'
          refine takeG (i := 1) (d := (some 4)) (v := ?v17) rfl rfl (by kernel_rfl) (by kernel_rfl) (by decide) hCl (by kernel_rfl) (by kernel_rfl) (by kernel_rfl) (fun _ _ _ h => h) (by rfl) ?hy17 (fun _ _ _ => trivial) (by assumption) (fun hCl' => ?_)
          case hy17 => ((intro w hSw; (try dsimp only at hSw); (try go_split_ands); go_simp); try with_reducible rfl)
          simp only [Act.put, List.setIfInBounds_toArray, List.set_cons_zero, List.set_cons_succ]
          replace hCl := hCl'; clear hCl'
          obtain ⟨V6, _, z6⟩ := hHeld
          have zf2 := frozB z6
          clear hCl
          refine lastG (i := 2) (by kernel_rfl) rfl (by rfl) (by decide) (fun K hK => ?_)
          go_simp
          obtain ⟨Z, hZ⟩ : ∃ X, (((((((((((((((w5.setCell ⟨w.heap.size + 1, 0, none⟩ (.int .i64 f))).setCell ⟨w.heap.size + 1, 1, none⟩ (.int .i64 s))).setCell ⟨w.heap.size + 1, 2, none⟩ (.int .i64 j))).setCell ⟨w.heap.size + 1, 3, none⟩ (.int .i64 dl))).setCell ⟨w.heap.size + 1, 4, none⟩ (.int .i64 dh))).setCell ⟨w.heap.size + 1, 5, none⟩ (.int .i64 T))).setCell ⟨w.heap.size + 1, 6, none⟩ (.slice a n c))).setCell ⟨w.heap.size + 1, 7, none⟩ (.slice a' ls.length c')).drew = X := ⟨_, rfl⟩
          have z8 : mblk Z (w.heap.size + 1) = some (.cells (BC f s j dl dh T (.slice a n c) (.slice a' ls.length c')) 44 (0, 0)) := by rw [← hZ, blk_drew]; exact put8_same k5 (.int .i64 f) (.int .i64 s) (.int .i64 j) (.int .i64 dl) (.int .i64 dh) (.int .i64 T) (.slice a n c) (.slice a' ls.length c')
          have V8 : Up w Z := by rw [← hZ]; exact Up.drew (Up.put8 V (show w.heap.size ≤ w.heap.size + 1 by omega) (.int .i64 f) (.int .i64 s) (.int .i64 j) (.int .i64 dl) (.int .i64 dh) (.int .i64 T) (.slice a n c) (.slice a' ls.length c'))
          try rw [hZ]
          refine hK.out _ _ ?_
          clear hK K hZ k2 k5 x7 hown hqs V V6 z6 zf zf2
          try simp only [Act.put, List.setIfInBounds_toArray, List.set_cons_zero, List.set_cons_succ]
          refine lastG (i := 3) (by kernel_rfl) rfl (by rfl) (by decide) (fun K hK => ?_)
          go_simp
          refine hK.out _ _ ?_
          clear hK K
          refine doneG (by kernel_rfl) ?_ _
          refine S.nrm_intro ?_
          have C := Lib.hid (cellB z8)
          clear z8
          go_wp2_with fail
          have cc := C.out
          exact bodyPost_ret (v := .tuple #[.slice none 0 0, BV f s j dl dh T (.slice a n c) (.slice a' ls.length c'), .bool false]) (by simp [results, Try.results51, go_sem, cc]) rfl ⟨V8, .inl rfl⟩
        | true =>
          rw [hin] at HLe
          have hin' := inB_iff.1 hin
          have HN2 := Lib.hid (HN.out hin'.1 hin'.2)
          have hvl := hW.out.len
          have HXn := Lib.hid (show x1 = (vs ++ [x1]).getD (t + 1) 0 by rw [← hvl]; exact S.getD_app_r.symm)
          clear HN hin
          go_wp2_with fail
          refine (HLe.out _).mono ?_
          rintro e w6 ⟨rfl, rfl⟩
          clear HLe
          have lw := blk_lt k2
          have lw5 := blk_lt k5
          have lw7 := blk_lt x7
          go_wp2_with (at_builtin; refine wpList_append_own _ rfl (.tmp 55) (.tmp 57) 26 rfl q 3 i0 (.int .i64 0) 1 8 hU hi hz0 hz1 hz2 rfl (by decide) _ (t + 1) _ rfl (hown.alloc _) ⟨w5.heap.size, 0, none⟩ 1 1 [.int .i64 x1] rfl rfl (cell_one_new _ _ _) (by simp [Value.oneCell']) (by unfold maxLen; omega) (by omega) (by simp; omega) ?_; intro v' w6 hown6 hgrow6 hv6)
          have A6 := Up.alloc (Up.refl w5) (.cells #[.int .i64 x1] 3)
          have e2 := grown_blk hgrow6 (blk_keep _ k2) (row_block hown l2)
          have e5 := grown_blk hgrow6 (blk_keep _ k5) (row_block hown l5)
          have e7 := grown_blk hgrow6 (blk_keep _ x7) (row_block hown l7)
          have V6 : Up w w6 := (V.alloc _).grown hgrow6 (fun k e => by have := row_base hown k e; omega)
          have hq6 : q ≤ w6.heap.size := by have := hgrow6.size; simp at this; omega
          go_roundw
          case rel => exact ⟨t + 1, vs ++ [x1], x1, by omega, by go_num, rfl, HXn.out, HN2.out, V6, e2, e5, e7, by rw [List.map_append]; exact hown6, hq6⟩
          case measure => (simp [intOf]; try omega)
    · obtain rfl : T = t := by omega
      obtain ⟨g0, cap0, curo, rfl, hg0, hgb, hc0, hcm0, hcs0, htk0⟩ := row_open hown (by omega)
      have hvl := Lib.hid hW.out.len
      have hvb := Lib.hid hW.out.fine
      have hcell := Lib.hid (fun k (hk : k < T + 1) => show curo[k]? = some (.int .i64 (vs.getD k 0)) by
        have hk2 : k < vs.length := by have := hvl.out; omega
        have e : (vs.map (Value.int .i64))[k]? = some (.int .i64 (vs.getD k 0)) := by
          rw [List.getElem?_map, List.getD_eq_getElem?_getD, List.getElem?_eq_getElem hk2]
          rfl
        rw [← htk0, List.getElem?_take_of_lt (by omega), Array.getElem?_toList] at e
        exact e)
      have lw2 := blk_lt k2
      have lw5 := blk_lt k5
      have lw7 := blk_lt x7
      have lwg := blk_lt hgb
      obtain ⟨iL, hiL, hL0, hL1, hL2⟩ := info_parts infoLook
      have hUL := Try.underlying42
      obtain ⟨bq, hbqe⟩ : ∃ q, wr.heap.size = q := ⟨_, rfl⟩
      rw [hbqe] at lw2 lw5 lw7 lwg
      have hbq0 : bq ≤ wr.heap.size := by omega
      unfold maxLen at hcm0
      clear hown hqs htk0 hbqe xb HXs HcL HcH HX x0b hi hz0 hz1 hz2 hU
      go_wp2_with fail
      go_loopw [11] (fun i wr => ∃ (k : Nat) (v : Value) (ls' : List (Int × Int × Int)), k ≤ ls.length ∧ i = .int .i64 k ∧ Hid (S.Saw T vs ls' k) ∧ Up w wr ∧ mblk wr w.heap.size = some (.cells (BC f s j dl dh T (.slice a n c) (.slice a' ls.length c')) 44 (0, 0)) ∧ mblk wr (w.heap.size + 1) = some (.cells BCZ 44 (0, 0)) ∧ mblk wr (w.heap.size + 1 + 1) = some (.cells (BC f s j dl dh T (.slice a n c) v) 44 (0, 0)) ∧ mblk wr g0 = some (.cells curo 3 (0, 0)) ∧ wr.ownsRow bq 71 3 v k (S.flat ls') ∧ bq ≤ wr.heap.size) (fun i _ => ls.length - (intOf i).toNat)
      case atStart => exact ⟨0, _, [], Nat.zero_le _, rfl, S.Saw.start _ _, V, k2, k5, x7, hgb, World.ownsRow_nil _ _ _ _, hbq0⟩
      case round =>
        clear V k2 k5 x7 hgb hbq0
        obtain ⟨k, v, ls', hk, rfl, hS, V, k2, k5, x7, hgb, hown, hbq⟩ := hrel
        by_cases hkl : k < ls.length
        · have hkl' : (k : Int) < (ls.length : Int) := by omega
          obtain ⟨a1, c1, e1, _, _, hmm⟩ := (HI'.out w (Up.refl w)).is
          injection e1 with e1 e2 e3
          subst e1 e3
          clear e2
          obtain ⟨g, off, rfl, gl, hc⟩ := hmm (by omega)
          obtain ⟨y1, y2, y3⟩ := hc k hkl
          have hlk := HKs.out k hkl
          obtain ⟨zz, hzz⟩ : ∃ q, ls.getD k (0, 0, 0) = q := ⟨_, rfl⟩
          rw [hzz] at y1 y2 y3 hlk
          obtain ⟨lt, ll, lh⟩ := zz
          simp only at y1 y2 y3
          have hlk2 : inB lt 0 T = true ∧ S.spanOk ll lh 20000 = true := by
            have : (inB lt 0 T && S.spanOk ll lh 20000) = true := hlk
            rwa [Bool.and_eq_true] at this
          have hsp := S.spanOk_iff.1 hlk2.2
          have hti := inB_iff.1 hlk2.1
          obtain ⟨tk, rfl⟩ : ∃ q : Nat, lt = q := ⟨lt.toNat, by omega⟩
          have htk1 : (tk : Int) < (T : Int) + 1 := by omega
          have htk2 : (0 : Int) ≤ (tk : Int) := by omega
          have ctk := (cellB hgb tk).trans (hcell.out tk (by omega))
          have hvt := hvb.out tk (by omega)
          have hSn := fun l u h1 h2 => hS.out.next (t := tk) (show (tk : Int) ≤ (T : Int) by omega) (l := l) (u := u) hvt.1 hvt.2 h1 h2
          obtain ⟨vt, hvt'⟩ : ∃ q, vs.getD tk 0 = q := ⟨_, rfl⟩
          rw [hvt'] at ctk hvt hSn
          obtain ⟨wide, hwide⟩ : ∃ q, lh - ll = q := ⟨_, rfl⟩
          have ww : IntKind.i64.wrap (lh - ll) = wide := by rw [IntWalk.i64_in _ (by omega)]; exact hwide
          have ww1 : IntKind.i64.wrap (wide + 1) = wide + 1 := IntWalk.i64_in _ (by omega)
          have wk3 : IntKind.i64.wrap ((k : Int) + 3) = (k : Int) + 3 := IntWalk.i64_in _ (by omega)
          have HAt := Lib.hid (fun w' (u : Up w w') => HA.out w' u ((k : Int) + 3))
          have HRs := Lib.hid (fun w => B_Rest_any (S.at bits ((k : Int) + 3)) (wide + 1) w (by omega) (by omega))
          have r1 := Int.emod_nonneg (S.at bits ((k : Int) + 3)) (b := wide + 1) (by omega)
          have r2 := Int.emod_lt_of_pos (S.at bits ((k : Int) + 3)) (b := wide + 1) (by omega)
          generalize S.at bits ((k : Int) + 3) = av at *
          generalize av % (wide + 1) = rho at *
          obtain ⟨low, hlow⟩ : ∃ q, vt - rho = q := ⟨_, rfl⟩
          have wlow : IntKind.i64.wrap (vt - rho) = low := by rw [IntWalk.i64_in _ (by omega)]; exact hlow
          have whi : IntKind.i64.wrap (low + wide) = low + wide := IntWalk.i64_in _ (by omega)
          have HSn := Lib.hid (hSn low (low + wide) (by omega) (by omega))
          obtain ⟨nl, hnl⟩ : ∃ q, max (-20000) low = q := ⟨_, rfl⟩
          obtain ⟨nh, hnh⟩ : ∃ q, min 20000 (low + wide) = q := ⟨_, rfl⟩
          rw [hnl, hnh] at HSn
          have hMx := max_run hnl
          have hMn := min_run hnh
          have HTo := Lib.hid (fun w => B_To_any nl nh w)
          replace y1 := V.cell2 y1
          replace y2 := V.cell2 y2
          replace y3 := V.cell2 y3
          have A1 := Up.alloc (Up.refl wr) (.cells #[.int .i64 tk, .int .i64 ll, .int .i64 lh] 71)
          have p1 := blk_new wr (.cells #[.int .i64 tk, .int .i64 ll, .int .i64 lh] 71) _ rfl
          have k21 := Up.blk A1 k2
          have k51 := Up.blk A1 k5
          have x71 := Up.blk A1 x7
          have hgb1 := Up.blk A1 hgb
          have hown1 := row_up hown A1
          have V1 := V.trans A1
          have hbq1 : bq ≤ (wr.alloc (.cells #[.int .i64 tk, .int .i64 ll, .int .i64 lh] 71)).heap.size := Nat.le_trans hbq (Up.size A1)
          have ctk1 := Up.cell2 A1 ctk
          have l2b := blk_lt k2
          obtain ⟨p12, hp12⟩ : ∃ q, wr.heap.size = q := ⟨_, rfl⟩
          obtain ⟨W1, hW1⟩ : ∃ W, wr.alloc (.cells #[.int .i64 tk, .int .i64 ll, .int .i64 lh] 71) = W := ⟨_, rfl⟩
          have hpb : bq ≤ p12 := by omega
          have hn12 : v.ownBlock ≠ some p12 := fun e => by have := (hown.lt p12 e).2; omega
          rw [hp12] at p1 l2b
          rw [hW1] at p1 k21 k51 x71 hgb1 hown1 V1 hbq1 ctk1
          have i2 := k2
          clear hlk hlk2 hzz hc hmm hwide hlow hSn hvt' hnl hnh hS V k5 x7 hgb hown hbq ctk A1
          go_wp2_with fail
          try rw [hW1]
          try rw [hp12]
          clear hW1 hp12 i2 k2 y1 y2 y3 l2b
          refine wp_region_held_drew (S := fun w' => (Up w w' ∧ mblk w' w.heap.size = some (.cells (BC f s j dl dh T (.slice a n c) (.slice (some ⟨g, off, none⟩) ls.length c')) 44 (0, 0)) ∧ mblk w' (w.heap.size + 1) = some (.cells BCZ 44 (0, 0)) ∧ mblk w' (w.heap.size + 1 + 1) = some (.cells (BC f s j dl dh T (.slice a n c) v) 44 (0, 0)) ∧ mblk w' g0 = some (.cells curo 3 (0, 0)) ∧ w'.ownsRow bq 71 3 v k (S.flat ls') ∧ bq ≤ w'.heap.size) ∧ mblk w' p12 = some (.cells #[.int .i64 tk, .int .i64 ll, .int .i64 lh] 71 (0, 0)) ∧ w'.cell? ⟨g0, tk, none⟩ = some (.int .i64 vt)) (by kernel_rfl) ⟨⟨V1.drew, by rw [blk_drew]; exact k21, by rw [blk_drew]; exact k51, by rw [blk_drew]; exact x71, by rw [blk_drew]; exact hgb1, row_up hown1 (Up.refl _).drew, hbq1⟩, by rw [blk_drew]; exact p1, ctk1⟩ (fun hHeld => ?_)
          clear V1 k21 k51 x71 hgb1 hown1 hbq1 p1 ctk1
          refine takeH (i := 0) (d := (some 78)) (v := ?v20) rfl rfl (by kernel_rfl) (by kernel_rfl) (by kernel_rfl) (fun _ _ _ h => h) (by rfl) ?hy20 (by assumption) ?_
          case hy20 => ((intro w hSw; (try dsimp only at hSw); (try go_split_ands); go_simp); try with_reducible rfl)
          simp only [Act.put, List.setIfInBounds_toArray, List.set_cons_zero, List.set_cons_succ]
          refine takeH (i := 1) (d := (some 79)) (v := ?v21) rfl rfl (by kernel_rfl) (by kernel_rfl) (by kernel_rfl) (fun _ _ _ h => h) (by rfl) ?hy21 (by assumption) ?_
          case hy21 => ((intro w hSw; (try dsimp only at hSw); (try go_split_ands); go_simp); try with_reducible rfl)
          simp only [Act.put, List.setIfInBounds_toArray, List.set_cons_zero, List.set_cons_succ]
          refine takeH (i := 5) (d := (some 83)) (v := ?v22) rfl rfl (by kernel_rfl) (by kernel_rfl) (by kernel_rfl) (fun _ _ _ h => h) (by rfl) ?hy22 (by assumption) ?_
          case hy22 => ((intro w hSw; (try dsimp only at hSw); (try go_split_ands); go_simp); try with_reducible rfl)
          simp only [Act.put, List.setIfInBounds_toArray, List.set_cons_zero, List.set_cons_succ]
          refine takeH (i := 6) (d := (some 84)) (v := ?v23) rfl rfl (by kernel_rfl) (by kernel_rfl) (by kernel_rfl) (fun _ _ _ h => h) (by rfl) ?hy23 (by assumption) ?_
          case hy23 => ((intro w hSw; (try dsimp only at hSw); (try go_split_ands); go_simp); try with_reducible rfl)
          simp only [Act.put, List.setIfInBounds_toArray, List.set_cons_zero, List.set_cons_succ]
          refine takeH (i := 9) (d := (some 87)) (v := ?v24) rfl rfl (by kernel_rfl) (by kernel_rfl) (by kernel_rfl) (fun _ _ _ h => h) (by rfl) ?hy24 (by assumption) ?_
          case hy24 => ((intro w hSw; (try dsimp only at hSw); (try go_split_ands); go_simp); try with_reducible rfl)
          simp only [Act.put, List.setIfInBounds_toArray, List.set_cons_zero, List.set_cons_succ]
          refine takeH (i := 2) (d := (some 80)) (v := ?v25) rfl rfl (by kernel_rfl) (by kernel_rfl) (by kernel_rfl) (fun _ _ _ h => h) (by rfl) ?hy25 (by assumption) ?_
          case hy25 => ((intro w hSw; (try dsimp only at hSw); (try go_split_ands); go_simp); try with_reducible rfl)
          simp only [Act.put, List.setIfInBounds_toArray, List.set_cons_zero, List.set_cons_succ]
          refine takeH (i := 7) (d := (some 85)) (v := ?v26) rfl rfl (by kernel_rfl) (by kernel_rfl) (by kernel_rfl) (fun _ _ _ h => h) (by rfl) ?hy26 (by assumption) ?_
          case hy26 => ((intro w hSw; (try dsimp only at hSw); (try go_split_ands); go_simp); try with_reducible rfl)
          simp only [Act.put, List.setIfInBounds_toArray, List.set_cons_zero, List.set_cons_succ]
          refine takeH (i := 10) (d := (some 88)) (v := ?v27) rfl rfl (by kernel_rfl) (by kernel_rfl) (by kernel_rfl) (fun _ _ _ h => h) (by rfl) ?hy27 (by assumption) ?_
          case hy27 => ((intro w hSw; (try dsimp only at hSw); (try go_split_ands); go_simp); try with_reducible rfl)
          simp only [Act.put, List.setIfInBounds_toArray, List.set_cons_zero, List.set_cons_succ]
          refine takeH (i := 3) (d := (some 81)) (v := ?v28) rfl rfl (by kernel_rfl) (by kernel_rfl) (by kernel_rfl) (fun _ _ _ h => h) (by rfl) ?hy28 (by assumption) ?_
          case hy28 => ((intro w hSw; (try dsimp only at hSw); (try go_split_ands); go_simp); try with_reducible rfl)
          simp only [Act.put, List.setIfInBounds_toArray, List.set_cons_zero, List.set_cons_succ]
          refine takeH (i := 4) (d := (some 82)) (v := ?v29) rfl rfl (by kernel_rfl) (by kernel_rfl) (by kernel_rfl) (fun _ _ _ h => h) (by rfl) ?hy29 (by assumption) ?_
          case hy29 => ((intro w hSw; (try dsimp only at hSw); (try go_split_ands); go_simp); try with_reducible rfl)
          simp only [Act.put, List.setIfInBounds_toArray, List.set_cons_zero, List.set_cons_succ]
          refine wpAnyH_ready (rs := [8]) (by kernel_rfl) (by simp) ?_
          refine AllReadyH.cons rfl (fun K hK => ?_) AllReadyH.nil
          go_simp
          refine (HAt.out _ hHeld.1.1).mono ?_
          rintro e w5 ⟨rfl, rfl⟩
          go_wp2_with fail
          refine hK.out _ _ hHeld (fun hHeld => ?_)
          clear hK K HAt
          refine wpAnyH_ready (rs := [11]) (by kernel_rfl) (by simp) ?_
          refine AllReadyH.cons rfl (fun K hK => ?_) AllReadyH.nil
          go_simp
          refine (HRs.out _).mono ?_
          rintro e w5 ⟨rfl, rfl⟩
          go_wp2_with fail
          refine hK.out _ _ hHeld (fun hHeld => ?_)
          clear hK K HRs
          refine takeH (i := 12) (d := (some 90)) (v := ?v32) rfl rfl (by kernel_rfl) (by kernel_rfl) (by kernel_rfl) (fun _ _ _ h => h) (by rfl) ?hy32 (by assumption) ?_
          case hy32 => ((intro w hSw; (try dsimp only at hSw); (try go_split_ands); go_simp); try with_reducible rfl)
          simp only [Act.put, List.setIfInBounds_toArray, List.set_cons_zero, List.set_cons_succ]
          refine takeH (i := 13) (d := (some 14)) (v := ?v33) rfl rfl (by kernel_rfl) (by kernel_rfl) (by kernel_rfl) (fun _ _ _ h => h) (by rfl) ?hy33 (by assumption) ?_
          case hy33 => ((intro w hSw; (try dsimp only at hSw); (try go_split_ands); go_simp); try with_reducible rfl)
          simp only [Act.put, List.setIfInBounds_toArray, List.set_cons_zero, List.set_cons_succ]
          refine wpAnyH_done (by kernel_rfl) ?_ _
          obtain ⟨⟨V, k2, k5, x7, hgb, hown, hbq⟩, p1, _⟩ := hHeld
          go_wp2_with fail
          refine (HTo.out _).mono ?_
          rintro e w6 ⟨rfl, u6⟩
          have s12 := p1
          replace k2 := u6.blk k2
          replace k5 := u6.blk k5
          replace x7 := u6.blk x7
          replace hgb := u6.blk hgb
          replace hown := row_up hown u6
          replace hbq := Nat.le_trans hbq u6.size
          replace V := V.trans u6
          replace p1 := u6.blk p1
          clear u6 s12 HTo
          have zf := frozB p1
          have i1 := p1
          have hws := V.size
          have V9 := (V.set (p := ⟨p12, 1, none⟩) (show w.heap.size ≤ p12 by omega) (.int .i64 nl)).set (p := ⟨p12, 2, none⟩) (show w.heap.size ≤ p12 by omega) (.int .i64 nh)
          have oth : ∀ m, m ≠ p12 → mblk ((w6.setCell ⟨p12, 1, none⟩ (.int .i64 nl)).setCell ⟨p12, 2, none⟩ (.int .i64 nh)) m = mblk w6 m := fun m hm => by rw [blk_set _ _ _ _ hm, blk_set _ _ _ _ hm]
          have k29 := (oth w.heap.size (by omega)).trans k2
          have k59 := (oth (w.heap.size + 1) (by omega)).trans k5
          have x79 := (oth (w.heap.size + 1 + 1) (by omega)).trans x7
          have hgb9 := (oth g0 (by omega)).trans hgb
          have p19 : mblk ((w6.setCell ⟨p12, 1, none⟩ (.int .i64 nl)).setCell ⟨p12, 2, none⟩ (.int .i64 nh)) p12 = some (.cells #[.int .i64 tk, .int .i64 nl, .int .i64 nh] 71 (0, 0)) := blk_put (blk_put p1 1 _) 2 _
          have hown9 := ownsRow_setCell_other (ownsRow_setCell_other hown (a := ⟨p12, 1, none⟩) hn12 (.int .i64 nl)) (a := ⟨p12, 2, none⟩) hn12 (.int .i64 nh)
          have hbq9 : bq ≤ ((w6.setCell ⟨p12, 1, none⟩ (.int .i64 nl)).setCell ⟨p12, 2, none⟩ (.int .i64 nh)).heap.size := by simpa using hbq
          obtain ⟨W9, hW9⟩ : ∃ X, (w6.setCell ⟨p12, 1, none⟩ (.int .i64 nl)).setCell ⟨p12, 2, none⟩ (.int .i64 nh) = X := ⟨_, rfl⟩
          rw [hW9] at V9 k29 k59 x79 hgb9 p19 hown9 hbq9
          clear oth V k2 k5 x7 hgb hown hbq
          have n7 : w.heap.size + 1 + 1 < W9.heap.size := blk_lt x79
          have n2 : w.heap.size < W9.heap.size := by omega
          have n12 : p12 < W9.heap.size := blk_lt p19
          go_wp2_with (at_builtin; refine wpList_append_own _ rfl (.tmp 100) (.tmp 102) 42 rfl bq 71 iL (.agg #[.int .i64 0, .int .i64 0, .int .i64 0]) 3 24 hUL hiL hL0 hL1 hL2 rfl (by decide) _ k (S.flat ls') rfl (hown9.alloc _) ⟨W9.heap.size, 0, none⟩ 1 1 [.int .i64 tk, .int .i64 nl, .int .i64 nh] rfl rfl (cell_three_new _ _ _ _ _) (by simp [Value.oneCell']) (by unfold maxLen; omega) (by omega) (by simp; omega) ?_; intro v' w10 hown10 hgrow10 hv10; obtain ⟨ra2, rc2, rfl, _, _⟩ := row_val hown10; have k210 := grown_blk hgrow10 (blk_keep _ k29) (row_block hown9 lw2); have k510 := grown_blk hgrow10 (blk_keep _ k59) (row_block hown9 lw5); have x710 := grown_blk hgrow10 (blk_keep _ x79) (row_block hown9 lw7); have g10 := grown_blk hgrow10 (blk_keep _ hgb9) (row_block hown9 lwg); have V10 : Up w w10 := (V9.alloc _).grown hgrow10 (fun k e => by have := row_base hown9 k e; omega); have zf7 := frozB x710; have hb10 : bq ≤ w10.heap.size := by (have := hgrow10.size; simp at this; omega))
          have V11 := Up.set V10 (p := ⟨w.heap.size + 1 + 1, 7, none⟩) (show w.heap.size ≤ w.heap.size + 1 + 1 by omega) (.slice ra2 (k + 1) rc2)
          have k211 : mblk (w10.setCell ⟨w.heap.size + 1 + 1, 7, none⟩ (.slice ra2 (k + 1) rc2)) w.heap.size = some (.cells (BC f s j dl dh T (.slice a n c) (.slice (some ⟨g, off, none⟩) ls.length c')) 44 (0, 0)) := by rw [blk_set _ _ _ _ (by show w.heap.size ≠ w.heap.size + 1 + 1; omega)]; exact k210
          have k511 : mblk (w10.setCell ⟨w.heap.size + 1 + 1, 7, none⟩ (.slice ra2 (k + 1) rc2)) (w.heap.size + 1) = some (.cells BCZ 44 (0, 0)) := by rw [blk_set _ _ _ _ (by show w.heap.size + 1 ≠ w.heap.size + 1 + 1; omega)]; exact k510
          have x711 : mblk (w10.setCell ⟨w.heap.size + 1 + 1, 7, none⟩ (.slice ra2 (k + 1) rc2)) (w.heap.size + 1 + 1) = some (.cells (BC f s j dl dh T (.slice a n c) (.slice ra2 (k + 1) rc2)) 44 (0, 0)) := blk_put x710 7 _
          have g11 : mblk (w10.setCell ⟨w.heap.size + 1 + 1, 7, none⟩ (.slice ra2 (k + 1) rc2)) g0 = some (.cells curo 3 (0, 0)) := by rw [blk_set _ _ _ _ (by show g0 ≠ w.heap.size + 1 + 1; omega)]; exact g10
          have hown11 := ownsRow_setCell_other hown10 (a := ⟨w.heap.size + 1 + 1, 7, none⟩) (fun e => row_block hown10 lw7 e.symm) (.slice ra2 (k + 1) rc2)
          have hb11 : bq ≤ (w10.setCell ⟨w.heap.size + 1 + 1, 7, none⟩ (.slice ra2 (k + 1) rc2)).heap.size := by simpa using hb10
          go_roundw
          case rel => exact ⟨k + 1, _, ls' ++ [((tk : Int), nl, nh)], by omega, by go_num, HSn.out, V11, k211, k511, x711, g11, by rw [S.flat_app]; exact hown11, hb11⟩
          case measure => (simp [intOf]; try omega)
        · obtain rfl : k = ls.length := by omega
          obtain ⟨hF1, hF2⟩ := HFin.out vs ls' hW.out hS.out
          have hF3 := hS.out.len
          obtain ⟨ra, rc, rfl, _, _⟩ := row_val hown
          have zf := frozB k5
          have i5 := k5
          have V6 := Up.drew (Up.put8 V (show w.heap.size ≤ w.heap.size + 1 by omega) (.int .i64 f) (.int .i64 s) (.int .i64 j) (.int .i64 dl) (.int .i64 dh) (.int .i64 T) (.slice a n c) (.slice ra ls.length rc))
          have z8 : mblk (((((((((((((((wr.setCell ⟨w.heap.size + 1, 0, none⟩ (.int .i64 f))).setCell ⟨w.heap.size + 1, 1, none⟩ (.int .i64 s))).setCell ⟨w.heap.size + 1, 2, none⟩ (.int .i64 j))).setCell ⟨w.heap.size + 1, 3, none⟩ (.int .i64 dl))).setCell ⟨w.heap.size + 1, 4, none⟩ (.int .i64 dh))).setCell ⟨w.heap.size + 1, 5, none⟩ (.int .i64 T))).setCell ⟨w.heap.size + 1, 6, none⟩ (.slice a n c))).setCell ⟨w.heap.size + 1, 7, none⟩ (.slice ra ls.length rc)).drew (w.heap.size + 1) = some (.cells (BC f s j dl dh T (.slice a n c) (.slice ra ls.length rc)) 44 (0, 0)) := by rw [blk_drew]; exact put8_same k5 (.int .i64 f) (.int .i64 s) (.int .i64 j) (.int .i64 dl) (.int .i64 dh) (.int .i64 T) (.slice a n c) (.slice ra ls.length rc)
          have zg : mblk (((((((((((((((wr.setCell ⟨w.heap.size + 1, 0, none⟩ (.int .i64 f))).setCell ⟨w.heap.size + 1, 1, none⟩ (.int .i64 s))).setCell ⟨w.heap.size + 1, 2, none⟩ (.int .i64 j))).setCell ⟨w.heap.size + 1, 3, none⟩ (.int .i64 dl))).setCell ⟨w.heap.size + 1, 4, none⟩ (.int .i64 dh))).setCell ⟨w.heap.size + 1, 5, none⟩ (.int .i64 T))).setCell ⟨w.heap.size + 1, 6, none⟩ (.slice a n c))).setCell ⟨w.heap.size + 1, 7, none⟩ (.slice ra ls.length rc)).drew g0 = some (.cells curo 3 (0, 0)) := by rw [blk_drew]; exact (put8_other wr (show g0 ≠ w.heap.size + 1 by omega) (.int .i64 f) (.int .i64 s) (.int .i64 j) (.int .i64 dl) (.int .i64 dh) (.int .i64 T) (.slice a n c) (.slice ra ls.length rc)).trans hgb
          have zr := row_up (row_put8 hown (fun e => row_block hown lw5 e.symm) (.int .i64 f) (.int .i64 s) (.int .i64 j) (.int .i64 dl) (.int .i64 dh) (.int .i64 T) (.slice a n c) (.slice ra ls.length rc)) (Up.refl _).drew
          have hl10 : ls.length ≤ 10 := g6
          have HI1 := Lib.hid (Ints.new (xs := vs) zg (cap := cap0) (by rw [hvl.out]; exact hc0) (by rw [hvl.out]; omega) (fun q hq => hcell.out q (by rw [← hvl.out]; exact hq)))
          have HL1 := Lib.hid (lks_of_row zr (by omega))
          have HF := Lib.hid (And.intro hF1 hF2)
          rw [hvl.out] at HI1
          clear hcell hvb hgb hF1 hF2 hS HKs HFin i5 zr zg hcs0 HI' hown
          go_wp2_with fail
          refine (wpIn_wide (n := 5)).1 ?_
          refine wpIn_nrm ?_
          refine regionG (fun w' => Up w w' ∧ mblk w' (w.heap.size + 1 + 1) = some (.cells (BC f s j dl dh T (.slice a n c) (.slice ra ls.length rc)) 44 (0, 0)) ∧ mblk w' (w.heap.size + 1) = some (.cells BCZ 44 (0, 0))) 3 (by kernel_rfl) ⟨V.drew, by rw [blk_drew]; exact x7, by rw [blk_drew]; exact k5⟩ (fun hHeld hCl => ?_)
          refine takeG (i := 0) (d := (some 105)) (v := ?v34) rfl rfl (by kernel_rfl) (by kernel_rfl) (by decide) hCl (by kernel_rfl) (by kernel_rfl) (by kernel_rfl) (fun _ _ _ h => h) (by rfl) ?hy34 (fun _ _ _ => trivial) (by assumption) (fun hCl' => ?_)
          case hy34 => ((intro w hSw; (try dsimp only at hSw); (try go_split_ands); go_simp); try with_reducible rfl)
          simp only [Act.put, List.setIfInBounds_toArray, List.set_cons_zero, List.set_cons_succ]
          replace hCl := hCl'; clear hCl'
          refine takeG (i := 1) (d := (some 106)) (v := ?v35) rfl rfl (by kernel_rfl) (by kernel_rfl) (by decide) hCl (by kernel_rfl) (by kernel_rfl) (by kernel_rfl) (fun _ _ _ h => h) (by rfl) ?hy35 (fun _ _ _ => trivial) (by assumption) (fun hCl' => ?_)
          case hy35 => ((intro w hSw; (try dsimp only at hSw); (try go_split_ands); go_simp); try with_reducible rfl)
          simp only [Act.put, List.setIfInBounds_toArray, List.set_cons_zero, List.set_cons_succ]
          replace hCl := hCl'; clear hCl'
          refine takeG (i := 2) (d := (some 4)) (v := ?v36) rfl rfl (by kernel_rfl) (by kernel_rfl) (by decide) hCl (by kernel_rfl) (by kernel_rfl) (by kernel_rfl) (fun _ _ _ h => h) (by rfl) ?hy36 (fun _ _ _ => trivial) (by assumption) (fun hCl' => ?_)
          case hy36 => ((intro w hSw; (try dsimp only at hSw); (try go_split_ands); go_simp); try with_reducible rfl)
          simp only [Act.put, List.setIfInBounds_toArray, List.set_cons_zero, List.set_cons_succ]
          replace hCl := hCl'; clear hCl'
          clear hCl
          have zf2 := frozB hHeld.2.2
          refine lastG (i := 3) (by kernel_rfl) rfl (by rfl) (by decide) (fun K hK => ?_)
          go_simp
          obtain ⟨Z, hZ⟩ : ∃ X, (((((((((((((((wr.setCell ⟨w.heap.size + 1, 0, none⟩ (.int .i64 f))).setCell ⟨w.heap.size + 1, 1, none⟩ (.int .i64 s))).setCell ⟨w.heap.size + 1, 2, none⟩ (.int .i64 j))).setCell ⟨w.heap.size + 1, 3, none⟩ (.int .i64 dl))).setCell ⟨w.heap.size + 1, 4, none⟩ (.int .i64 dh))).setCell ⟨w.heap.size + 1, 5, none⟩ (.int .i64 T))).setCell ⟨w.heap.size + 1, 6, none⟩ (.slice a n c))).setCell ⟨w.heap.size + 1, 7, none⟩ (.slice ra ls.length rc)).drew = X := ⟨_, rfl⟩
          rw [hZ] at V6 z8 HI1 HL1
          try rw [hZ]
          refine hK.out _ _ ?_
          clear hK K hZ k2 k5 x7 V zf zf2 hHeld hbq
          try simp only [Act.put, List.setIfInBounds_toArray, List.set_cons_zero, List.set_cons_succ]
          refine lastG (i := 4) (by kernel_rfl) rfl (by rfl) (by decide) (fun K hK => ?_)
          go_simp
          refine hK.out _ _ ?_
          clear hK K
          refine doneG (by kernel_rfl) ?_ _
          refine S.nrm_intro ?_
          have C := Lib.hid (cellB z8)
          clear z8
          go_wp2_with fail
          have cc := C.out
          exact bodyPost_ret (v := .tuple #[.slice (some ⟨g0, 0, none⟩) (T + 1) cap0, BV f s j dl dh T (.slice a n c) (.slice ra ls.length rc), .bool true]) (by simp [results, Try.results51, go_sem, cc]) rfl ⟨V6, .inr ⟨some ⟨g0, 0, none⟩, cap0, ra, rc, vs, ls', rfl, HI1.out, hvl.out, HL1.out, hF3, HF.out.1, HF.out.2⟩⟩
end

end Go.Proofs.Ytcadpdbadgejfaa
