import Derived.Test.YtcadpdbadgejfaaRfJ
import Derived.OwnWalkIn
/- The contract of the reference's Shown. -/
namespace Go.Proofs.Ytcadpdbadgejfaa
open Go.RowKit

theorem Ints.cell {w : World} {g off n c : Nat} {xs : List Int} (I : Ints w (.slice (some ⟨g, off, none⟩) n c) xs) {k : Nat} (hk : k < xs.length) : w.cell? ⟨g, off + k, none⟩ = some (.int .i64 (xs.getD k 0)) := by
  obtain ⟨a, c', e, _, _, m⟩ := I.is
  obtain ⟨g', off', rfl, _, hc⟩ := m (by omega)
  simp only [Value.slice.injEq, Option.some.injEq, Addr.mk.injEq] at e
  obtain ⟨⟨rfl, rfl, _⟩, _, _⟩ := e
  exact hc k hk
/-- an append to a slice of the call's own, as one operation of a fenced region -/
theorem opIn_append_own {F : Fence} {n : Nat} {P : Program} {w : World} {o : Oper} {a : Act} {K : Act → World → Prop} {Q : Exit → Act → World → Prop} (s x : Operand) (t : TypeId) (ho : o.op = .call { callee := .builtin .append, args := #[s, x], argTypes := #[t, t] })
    (base : Nat) (e : TypeId) (i : TypeInfo) (z : Value) (size bytes : Nat) (g1 : P.underlying t = some (.slice e)) (g2 : P.info? e = some i) (g3 : i.zero = some z) (g4 : i.size = size) (g5 : i.bytes = bytes) (g6 : z.cells.size = size) (g7 : 0 < size)
    (v : Value) (k : Nat) (xs : List Value) (hs : a.eval s = v) (hown : w.ownsRow base e size v k xs) (ad : Addr) (m c : Nat) (news : List Value) (hx : a.eval x = .slice (some ad) m c) (hl : news.length = m * size)
    (hn : ∀ j u, news[j]? = some u → w.cell? (ad.add j) = some u) (hu : ∀ u ∈ news, u.oneCell' = true) (b1 : k + m ≤ maxLen) (b2 : (k + m) * bytes ≤ 140737488355328) (b3 : base ≤ w.heap.size)
    (h : ∀ v' w', w'.ownsRow base e size v' (k + m) (xs ++ news) → w.grownBy w' v.ownBlock → (v' = .slice none 0 0 ↔ v = .slice none 0 0 ∧ m = 0) → K (a.put o.dst v') w') : Oper.wpIn F n P o a w K Q := by
  obtain ⟨v', w', hr, h1, h2, h3⟩ := run_append_own (P := P) w base t o.type e i z size bytes g1 g2 g3 g4 g5 g6 g7 v k xs hown ad m c news hl hn hu b1 b2 b3
  have hK := h v' w' h1 h2 h3
  constructor
  · intro f hf
    simp [Oper.about, ho, resolve, Target.leads, Sem.run_pure] at hf
  · rw [Oper.semAt_plain F _ _ (fun c hc => by rw [ho] at hc; cases hc)]
    simp only [execOp, ho, resolve, invoke, builtin, Sem.run_bind, Sem.run_pure, Result.andThen_ok, List.map_toArray, List.map_cons, List.map_nil, hs, hx, hr]
    exact hK
theorem Up.cell1 {W w1 : World} (hb : Up W w1) {b j : Nat} {v : Value} (h : W.cell? ⟨b, j, none⟩ = some v) : w1.cell? ⟨b, j, none⟩ = some v := by
  have hl : b < W.heap.size := by
    refine Decidable.byContradiction fun hn => ?_
    have e : W.heap[b]? = none := Array.getElem?_eq_none_iff.2 (by omega)
    unfold World.cell? at h
    simp only [e] at h
    simp at h
  rw [hb.facts.1 b j hl]
  exact h
section
variable {f s j dl dh : Int}
theorem r_Shown_no {v : Value} (w : World) (h : S.ok f s j dl dh = false) (fr : Int) : Calls Try.prog 25 #[RV f s j dl dh, .int .i64 fr, v] w fun e w' => e = .returned (.tuple #[.slice none 0 0, .int .i64 40]) ∧ Up w w' := by
  have U0 := (Up.refl w).alloc (.cells #[.int .i64 f, .int .i64 s, .int .i64 j, .int .i64 dl, .int .i64 dh] 25)
  have HC := Lib.hid (fun w => r_checkRule_any f s j dl dh w)
  rw [h] at HC
  clear h
  go_enter Try.func25, Try.ntmps25
  go_wp2_with fail
  refine (HC.out _).mono ?_
  rintro e w1 ⟨rfl, u1⟩
  go_wp2
  go_ret2
  exact ⟨rfl, U0.trans u1⟩
theorem r_Shown_ask1 {v : Value} (w : World) (h : S.ok f s j dl dh = true) (fr : Int) (hf : ¬ (0 ≤ fr ∧ fr ≤ 10000000)) : Calls Try.prog 25 #[RV f s j dl dh, .int .i64 fr, v] w fun e w' => e = .returned (.tuple #[.slice none 0 0, .int .i64 41]) ∧ Up w w' := by
  have U0 := (Up.refl w).alloc (.cells #[.int .i64 f, .int .i64 s, .int .i64 j, .int .i64 dl, .int .i64 dh] 25)
  have HC := Lib.hid (fun w => r_checkRule_any f s j dl dh w)
  rw [h] at HC
  have HL := Lib.hid (fun w => show Calls Try.prog 42 #[.int .i64 fr, .int .i64 0, .int .i64 10000000] w fun e w' => e = .returned (.bool false) ∧ w = w' by rw [← inB_no hf]; exact B_Lies_any _ _ _ w)
  clear h hf
  go_enter Try.func25, Try.ntmps25
  go_wp2_with fail
  refine (HC.out _).mono ?_
  rintro e w1 ⟨rfl, u1⟩
  go_wp2_with fail
  refine (HL.out _).mono ?_
  rintro e w2 ⟨rfl, rfl⟩
  go_wp2
  go_ret2
  exact ⟨rfl, U0.trans u1⟩
set_option maxRecDepth 100000 in
theorem r_Shown_ask2 {v : Value} {xs : List Int} (w : World) (h : S.ok f s j dl dh = true) (fr : Int) (f1 : 0 ≤ fr) (f2 : fr ≤ 10000000) (I : Ints w v xs) (hk : (decide ((xs.length : Int) ≤ 200) && S.keeps f s j 0 xs) = false) : Calls Try.prog 25 #[RV f s j dl dh, .int .i64 fr, v] w fun e w' => e = .returned (.tuple #[.slice none 0 0, .int .i64 41]) ∧ Up w w' := by
  have U0 := (Up.refl w).alloc (.cells #[.int .i64 f, .int .i64 s, .int .i64 j, .int .i64 dl, .int .i64 dh] 25)
  have k0 := blk_new w (.cells #[.int .i64 f, .int .i64 s, .int .i64 j, .int .i64 dl, .int .i64 dh] 25) _ rfl
  have HC := Lib.hid (fun w => r_checkRule_any f s j dl dh w)
  rw [h] at HC
  have HL := Lib.hid (fun w => show Calls Try.prog 42 #[.int .i64 fr, .int .i64 0, .int .i64 10000000] w fun e w' => e = .returned (.bool true) ∧ w = w' by rw [← inB_yes f1 f2]; exact B_Lies_any _ _ _ w)
  have HK := Lib.hid (fun w' (u : Up w w') => r_keeps_any (dl := dl) (dh := dh) h (I.up u))
  obtain ⟨a, c, rfl, _, _, _⟩ := I.is
  generalize S.keeps f s j 0 xs = b at *
  by_cases hl : (xs.length : Int) ≤ 200
  · rw [decide_eq_true hl, Bool.true_and] at hk
    subst hk
    have hn : decide ((200 : Int) < (xs.length : Int)) = false := decide_eq_false (by omega)
    have hn' : ¬ (200 : Int) < (xs.length : Int) := by omega
    clear h f1 f2 I
    go_enter Try.func25, Try.ntmps25
    go_wp2_with fail
    refine (HC.out _).mono ?_
    rintro e w1 ⟨rfl, u1⟩
    replace k0 := u1.blk k0
    go_wp2_with fail
    refine (HL.out _).mono ?_
    rintro e w2 ⟨rfl, rfl⟩
    go_wp2_with fail
    refine (HK.out _ (U0.trans u1)).mono ?_
    rintro e w3 ⟨rfl, u3⟩
    go_wp2
    go_ret2
    exact ⟨rfl, (U0.trans u1).trans u3⟩
  · have hn : decide ((200 : Int) < (xs.length : Int)) = true := decide_eq_true (by omega)
    have hn' : (200 : Int) < (xs.length : Int) := by omega
    clear h f1 f2 I hk HK
    go_enter Try.func25, Try.ntmps25
    go_wp2_with fail
    refine (HC.out _).mono ?_
    rintro e w1 ⟨rfl, u1⟩
    go_wp2_with fail
    refine (HL.out _).mono ?_
    rintro e w2 ⟨rfl, rfl⟩
    go_wp2
    go_ret2
    exact ⟨rfl, U0.trans u1⟩
set_option maxRecDepth 100000 in
set_option maxHeartbeats 4000000 in
theorem r_Shown_yes {v : Value} {xs : List Int} (w : World) (h : S.ok f s j dl dh = true) (fr : Int) (f1 : 0 ≤ fr) (f2 : fr ≤ 10000000) (I : Ints w v xs) (hk : (decide ((xs.length : Int) ≤ 200) && S.keeps f s j 0 xs) = true) : Calls Try.prog 25 #[RV f s j dl dh, .int .i64 fr, v] w fun e w' => ∃ v', e = .returned (.tuple #[v', .int .i64 0]) ∧ Up w w' ∧ Ints w' v' ((List.range (xs.length + 1)).map (S.shows fr xs)) := by
  have U0 := (Up.refl w).alloc (.cells #[.int .i64 f, .int .i64 s, .int .i64 j, .int .i64 dl, .int .i64 dh] 25)
  have k0 := blk_new w (.cells #[.int .i64 f, .int .i64 s, .int .i64 j, .int .i64 dl, .int .i64 dh] 25) _ rfl
  obtain ⟨⟨q1, q2⟩, ⟨s1, s2⟩, _, _⟩ := S.ok_iff.1 h
  have HC := Lib.hid (fun w => r_checkRule_any f s j dl dh w)
  rw [h] at HC
  have HL := Lib.hid (fun w => show Calls Try.prog 42 #[.int .i64 fr, .int .i64 0, .int .i64 10000000] w fun e w' => e = .returned (.bool true) ∧ w = w' by rw [← inB_yes f1 f2]; exact B_Lies_any _ _ _ w)
  obtain ⟨hn, hkk⟩ := (Bool.and_eq_true _ _).mp hk
  have hn := of_decide_eq_true hn
  have HK := Lib.hid (fun w' (u : Up w w') => show Calls Try.prog 58 #[RV f s j dl dh, v] w' fun e w'' => e = .returned (.bool true) ∧ Up w' w'' by rw [← hkk]; exact r_keeps_any (dl := dl) (dh := dh) h (I.up u))
  have HB := Lib.hid (fun k (hk : k < xs.length) => show -500 ≤ xs.getD k 0 ∧ xs.getD k 0 ≤ 500 by have := S.keeps_bd xs 0 hkk k hk; omega)
  have HS := Lib.hid (fun k (hk : k < xs.length) => S.shows_succ fr hk)
  obtain ⟨i0, hi, hz0, hz1, hz2⟩ := info_parts Try.infoInt
  have hU := Try.underlying26
  obtain ⟨a, c, rfl, _, hl, hm⟩ := I.is
  have HM := Lib.hid hm
  have hg : decide ((200 : Int) < (xs.length : Int)) = false := decide_eq_false (by omega)
  have hg' : ¬ (200 : Int) < (xs.length : Int) := by omega
  clear h hk hkk I hm q1 q2 s1 s2
  go_enter Try.func25, Try.ntmps25
  go_wp2_with fail
  refine (HC.out _).mono ?_
  rintro e w1 ⟨rfl, u1⟩
  replace k0 := u1.blk k0
  replace U0 := U0.trans u1
  clear u1 HC
  go_wp2_with fail
  refine (HL.out _).mono ?_
  rintro e w2 ⟨rfl, rfl⟩
  go_wp2_with fail
  refine (HK.out _ U0).mono ?_
  rintro e w3 ⟨rfl, u3⟩
  have U3 := U0.trans u3
  have R0 := World.ownsRow_lit (base := w3.heap.size) (e := 3) (size := 1) w3 #[.int .i64 fr] 1 (Nat.le_refl _) (by unfold maxLen; omega) rfl
  have z3 := U3.size
  have UA := U3.alloc (.cells #[.int .i64 fr] 3)
  clear U0 HL HK u3 k0
  go_wp2_with fail
  go_loopw [8, 9] (fun l i wr => ∃ (k : Nat) (x : Int), k ≤ xs.length ∧ i = .int .i64 k ∧ x = S.shows fr xs k ∧ -100000 ≤ x ∧ x ≤ 10000000 + 1500 * k ∧ -500 * k ≤ x ∧ wr.ownsRow w3.heap.size 3 1 l (k + 1) (((List.range (k + 1)).map (S.shows fr xs)).map (Value.int .i64)) ∧ Up w wr ∧ w3.heap.size ≤ wr.heap.size) (fun _ i _ => xs.length - (intOf i).toNat)
  case atStart => exact ⟨0, fr, Nat.zero_le _, rfl, (S.shows_zero fr xs).symm, by omega, by omega, by omega, by simpa [S.shows_zero] using R0, UA, by simp⟩
  case round =>
    obtain ⟨k, x, hk, rfl, hx, b1, b2, b3, hown, V, zr⟩ := hrel
    have hX := Lib.hid hx
    by_cases hlt : k < xs.length
    · have hlt' : (k : Int) < (xs.length : Int) := by omega
      obtain ⟨g, off, rfl, gl, hc⟩ := HM.out (by omega)
      have hcell := (V.facts.1 g _ gl).trans (hc k hlt)
      have st := HS.out k hlt
      obtain ⟨y1, y2⟩ := HB.out k hlt
      obtain ⟨y, hy⟩ : ∃ y, xs.getD k 0 = y := ⟨_, rfl⟩
      rw [hy] at hcell st y1 y2
      have HX := Lib.hid (hX.out ▸ st)
      obtain ⟨x', hx'⟩ : ∃ x', x + 1000 + y = x' := ⟨_, rfl⟩
      have HLs := Lib.hid (show ((List.range (k + 1 + 1)).map (S.shows fr xs)).map (Value.int .i64) = ((List.range (k + 1)).map (S.shows fr xs)).map (Value.int .i64) ++ [.int .i64 x'] by rw [List.range_succ, List.map_append, List.map_append, List.map_singleton, List.map_singleton, HX.out, hx'])
      have HX' := Lib.hid (show x' = S.shows fr xs (k + 1) by rw [HX.out, hx'])
      have w1 : IntKind.i64.wrap (x + 1000) = x + 1000 := IntWalk.i64_in _ (by omega)
      have w2 : IntKind.i64.wrap (x + 1000 + y) = x' := by rw [IntWalk.i64_in _ (by omega)]; exact hx'
      obtain ⟨g', cap, rfl, hg'⟩ := row_slice hown
      have oc := (ints_of_row hown (by omega)).cell (k := k) (by rw [List.length_map, List.length_range]; omega)
      rw [S.map_range_getD _ (by omega), ← hx, Nat.zero_add] at oc
      have bk : (k : Int) < (k : Int) + 1 := by omega
      have x'1 : -100000 ≤ x' := by omega
      have x'2 : x' ≤ 10000000 + 1500 * (k + 1 : Nat) := by omega
      have x'3 : -500 * (k + 1 : Nat) ≤ x' := by omega
      clear hc st hx hy HX hx'
      go_wp2_with fail
      refine (wpIn_wide (n := 5)).1 ?_
      refine wpIn_nrm ?_
      refine regionG (fun w' => (Up w w' ∧ w3.heap.size ≤ w'.heap.size ∧ w'.ownsRow w3.heap.size 3 1 (.slice (some ⟨g', 0, none⟩) (k + 1) cap) (k + 1) (((List.range (k + 1)).map (S.shows fr xs)).map (Value.int .i64))) ∧ w'.cell? ⟨g', k, none⟩ = some (.int .i64 x) ∧ w'.cell? ⟨g, off + k, none⟩ = some (.int .i64 y)) 12 (by kernel_rfl) ⟨⟨V.drew, zr, row_up hown (Up.refl _).drew⟩, oc, hcell⟩ (fun hHeld hCl => ?_)
      clear hHeld
      have hHeld : (fun w' => (Up w w' ∧ w3.heap.size ≤ w'.heap.size ∧ w'.ownsRow w3.heap.size 3 1 (.slice (some ⟨g', 0, none⟩) (k + 1) cap) (k + 1) (((List.range (k + 1)).map (S.shows fr xs)).map (Value.int .i64))) ∧ w'.cell? ⟨g', k, none⟩ = some (.int .i64 x) ∧ w'.cell? ⟨g, off + k, none⟩ = some (.int .i64 y)) wr.drew := ⟨⟨V.drew, zr, row_up hown (Up.refl _).drew⟩, oc, hcell⟩
      have hAl : Up wr (wr.alloc (.cells #[.int .i64 x'] 3)).drew := ((Up.refl wr).alloc _).drew
      have V1 := V.trans hAl
      have zr1 : w3.heap.size ≤ (wr.alloc (.cells #[.int .i64 x'] 3)).drew.heap.size := by have := hAl.size; omega
      have hown1 := row_up hown hAl
      have oc1 := hAl.cell1 oc
      have hcell1 := hAl.cell1 hcell
      have hnew : ∀ j u, [Value.int .i64 x'][j]? = some u → (wr.alloc (.cells #[.int .i64 x'] 3)).drew.cell? ((⟨wr.heap.size, 0, none⟩ : Addr).add j) = some u := fun j u h => cell_one_new wr (.int .i64 x') 3 j u h
      clear oc hcell hown V zr hAl
      refine takeG (i := 0) (d := (some 35)) (v := ?v1) rfl rfl (by kernel_rfl) (by kernel_rfl) (by decide) hCl (by kernel_rfl) (by kernel_rfl) (by kernel_rfl) (fun _ _ _ h => h) (by rfl) ?hy1 (fun _ _ _ => trivial) (by assumption) (fun hCl' => ?_)
      case hy1 => ((intro w hSw; (try dsimp only at hSw); (try go_split_ands); go_simp); try with_reducible rfl)
      simp only [Act.put, List.setIfInBounds_toArray, List.set_cons_zero, List.set_cons_succ]
      replace hCl := hCl'; clear hCl'
      refine takeG (i := 1) (d := (some 36)) (v := ?v2) rfl rfl (by kernel_rfl) (by kernel_rfl) (by decide) hCl (by kernel_rfl) (by kernel_rfl) (by kernel_rfl) (fun _ _ _ h => h) (by rfl) ?hy2 (fun _ _ _ => trivial) (by assumption) (fun hCl' => ?_)
      case hy2 => ((intro w hSw; (try dsimp only at hSw); (try go_split_ands); go_simp); try with_reducible rfl)
      simp only [Act.put, List.setIfInBounds_toArray, List.set_cons_zero, List.set_cons_succ]
      replace hCl := hCl'; clear hCl'
      refine takeG (i := 2) (d := (some 37)) (v := ?v3) rfl rfl (by kernel_rfl) (by kernel_rfl) (by decide) hCl (by kernel_rfl) (by kernel_rfl) (by kernel_rfl) (fun _ _ _ h => h) (by rfl) ?hy3 (fun _ _ _ => trivial) (by assumption) (fun hCl' => ?_)
      case hy3 => ((intro w hSw; (try dsimp only at hSw); (try go_split_ands); go_simp); try with_reducible rfl)
      simp only [Act.put, List.setIfInBounds_toArray, List.set_cons_zero, List.set_cons_succ]
      replace hCl := hCl'; clear hCl'
      refine takeG (i := 6) (d := (some 41)) (v := ?v4) rfl rfl (by kernel_rfl) (by kernel_rfl) (by decide) hCl (by kernel_rfl) (by kernel_rfl) (by kernel_rfl) (fun _ _ _ h => h) (by rfl) ?hy4 (fun _ _ _ => trivial) (by assumption) (fun hCl' => ?_)
      case hy4 => ((intro w hSw; (try dsimp only at hSw); (try go_split_ands); go_simp); try with_reducible rfl)
      simp only [Act.put, List.setIfInBounds_toArray, List.set_cons_zero, List.set_cons_succ]
      replace hCl := hCl'; clear hCl'
      refine takeG (i := 7) (d := (some 42)) (v := ?v5) rfl rfl (by kernel_rfl) (by kernel_rfl) (by decide) hCl (by kernel_rfl) (by kernel_rfl) (by kernel_rfl) (fun _ _ _ h => h) (by rfl) ?hy5 (fun _ _ _ => trivial) (by assumption) (fun hCl' => ?_)
      case hy5 => ((intro w hSw; (try dsimp only at hSw); (try go_split_ands); go_simp); try with_reducible rfl)
      simp only [Act.put, List.setIfInBounds_toArray, List.set_cons_zero, List.set_cons_succ]
      replace hCl := hCl'; clear hCl'
      refine takeG (i := 3) (d := (some 38)) (v := ?v6) rfl rfl (by kernel_rfl) (by kernel_rfl) (by decide) hCl (by kernel_rfl) (by kernel_rfl) (by kernel_rfl) (fun _ _ _ h => h) (by rfl) ?hy6 (fun _ _ _ => trivial) (by assumption) (fun hCl' => ?_)
      case hy6 => ((intro w hSw; (try dsimp only at hSw); (try go_split_ands); go_simp); try with_reducible rfl)
      simp only [Act.put, List.setIfInBounds_toArray, List.set_cons_zero, List.set_cons_succ]
      replace hCl := hCl'; clear hCl'
      refine takeG (i := 8) (d := (some 43)) (v := ?v7) rfl rfl (by kernel_rfl) (by kernel_rfl) (by decide) hCl (by kernel_rfl) (by kernel_rfl) (by kernel_rfl) (fun _ _ _ h => h) (by rfl) ?hy7 (fun _ _ _ => trivial) (by assumption) (fun hCl' => ?_)
      case hy7 => ((intro w hSw; (try dsimp only at hSw); (try go_split_ands); go_simp); try with_reducible rfl)
      simp only [Act.put, List.setIfInBounds_toArray, List.set_cons_zero, List.set_cons_succ]
      replace hCl := hCl'; clear hCl'
      refine takeG (i := 4) (d := (some 39)) (v := ?v8) rfl rfl (by kernel_rfl) (by kernel_rfl) (by decide) hCl (by kernel_rfl) (by kernel_rfl) (by kernel_rfl) (fun _ _ _ h => h) (by rfl) ?hy8 (fun _ _ _ => trivial) (by assumption) (fun hCl' => ?_)
      case hy8 => ((intro w hSw; (try dsimp only at hSw); (try go_split_ands); go_simp); try with_reducible rfl)
      simp only [Act.put, List.setIfInBounds_toArray, List.set_cons_zero, List.set_cons_succ]
      replace hCl := hCl'; clear hCl'
      refine takeG (i := 9) (d := (some 44)) (v := ?v9) rfl rfl (by kernel_rfl) (by kernel_rfl) (by decide) hCl (by kernel_rfl) (by kernel_rfl) (by kernel_rfl) (fun _ _ _ h => h) (by rfl) ?hy9 (fun _ _ _ => trivial) (by assumption) (fun hCl' => ?_)
      case hy9 => ((intro w hSw; (try dsimp only at hSw); (try go_split_ands); go_simp); try with_reducible rfl)
      simp only [Act.put, List.setIfInBounds_toArray, List.set_cons_zero, List.set_cons_succ]
      replace hCl := hCl'; clear hCl'
      refine takeG (i := 5) (d := (some 40)) (v := ?v10) rfl rfl (by kernel_rfl) (by kernel_rfl) (by decide) hCl (by kernel_rfl) (by kernel_rfl) (by kernel_rfl) (fun _ _ _ h => h) (by rfl) ?hy10 (fun _ _ _ => trivial) (by assumption) (fun hCl' => ?_)
      case hy10 => ((intro w hSw; (try dsimp only at hSw); (try go_split_ands); go_simp); try with_reducible rfl)
      simp only [Act.put, List.setIfInBounds_toArray, List.set_cons_zero, List.set_cons_succ]
      replace hCl := hCl'; clear hCl'
      refine takeG (i := 10) (d := (some 45)) (v := ?v11) rfl rfl (by kernel_rfl) (by kernel_rfl) (by decide) hCl (by kernel_rfl) (by kernel_rfl) (by kernel_rfl) (fun _ _ _ h => h) (by rfl) ?hy11 (fun _ _ _ => trivial) (by assumption) (fun hCl' => ?_)
      case hy11 => ((intro w hSw; (try dsimp only at hSw); (try go_split_ands); go_simp); try with_reducible rfl)
      simp only [Act.put, List.setIfInBounds_toArray, List.set_cons_zero, List.set_cons_succ]
      replace hCl := hCl'; clear hCl'
      refine nextG (i := 11) (by kernel_rfl) rfl (by rfl) hCl (fun K hK => ?_)
      go_simp
      obtain ⟨W1, hW1⟩ : ∃ W, (wr.alloc (.cells #[.int .i64 x'] 3)).drew = W := ⟨_, rfl⟩
      rw [hW1] at V1 zr1 hown1 oc1 hcell1 hnew
      rw [hW1]
      refine hK.out _ _ ⟨⟨V1, zr1, hown1⟩, oc1, hcell1⟩ (fun _ hCl => ?_)
      clear hK K hHeld oc1 hcell1 hW1
      try simp only [Act.put, List.setIfInBounds_toArray, List.set_cons_zero, List.set_cons_succ]
      refine lastG (i := 12) (by kernel_rfl) rfl (by rfl) (by decide) (fun K hK => ?_)
      refine opIn_append_own (.tmp 35) (.tmp 46) 26 rfl w3.heap.size 3 i0 (.int .i64 0) 1 8 hU hi hz0 hz1 hz2 rfl (by decide) _ (k + 1) _ rfl hown1 ⟨wr.heap.size, 0, none⟩ 1 1 [.int .i64 x'] rfl rfl hnew (by simp [Value.oneCell']) (by unfold maxLen; omega) (by omega) zr1 ?_
      intro v' w5 hown5 hgrow5 hv5
      refine hK.out _ _ ?_
      clear hK K hCl hv5
      simp only [Act.put, List.setIfInBounds_toArray]
      refine lastG (i := 13) (by kernel_rfl) rfl (by rfl) (by decide) (fun K hK => ?_)
      go_simp
      refine hK.out _ _ ?_
      clear hK K
      try simp only [Act.put, List.setIfInBounds_toArray, List.set_cons_zero, List.set_cons_succ]
      refine doneG (by kernel_rfl) ?_ _
      refine S.nrm_intro ?_
      have B1 : Below w3.heap.size W1 w5 := (Below.refl w3.heap.size W1).grown hgrow5 zr1 (fun k e => row_base hown1 k e)
      have U5 := Below.trans V1 (B1.mono (by omega))
      go_wp2_with fail
      go_roundw
      case rel => exact ⟨k + 1, x', by omega, by go_num, HX'.out, x'1, x'2, x'3, by rw [HLs.out]; exact hown5, U5, by have := B1.size; omega⟩
      case measure => simp [intOf]; omega
    · have hke : k = xs.length := by omega
      subst hke
      obtain ⟨sa, cap, rfl, hc1, hc2⟩ := row_val hown
      have hI := Lib.hid (ints_of_row hown (by omega))
      unfold maxLen at hc2
      clear hown hX hx
      go_wp2
      go_ret2
      exact ⟨_, rfl, V, hI.out⟩
end

end Go.Proofs.Ytcadpdbadgejfaa
