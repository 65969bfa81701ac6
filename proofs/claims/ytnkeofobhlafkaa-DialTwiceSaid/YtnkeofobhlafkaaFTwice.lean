import Derived.Test.YtnkeofobhlafkaaTwe
import Derived.Test.YtnkeofobhlafkaaLawI
/- The walk of the law DialTwice. -/
namespace Go.Proofs.Ytnkeofobhlafkaa
open Go.RowKit
theorem cell_TWt {w : World} {b : Nat} {cs : Array Value} (h : mblk w b = some (.cells cs 44 (0, 0))) (j : Nat) : w.cell? ⟨b, j, none⟩ = cs[j]? := cellB h j
attribute [local go_sem] cell_TW7 cell_TWt

set_option maxRecDepth 100000 in
set_option maxHeartbeats 1000000 in
theorem dialTwice_no {h m s N : Int} {a : Option Addr} {n c : Nat} {L : List (Int × Bool)} {ah : Int} {a' : Option Addr} {n' c' : Nat} {M : List (Int × Int)} {w : World} (A : CalArg w a n c L) (B : TownArg w a' n' c' M) (hf : D.fits h m s N L ah M = false) :
    Calls Try.prog 14 #[.agg #[.int .i64 h, .int .i64 m, .int .i64 s, .int .i64 N, .slice a n c, .int .i64 ah, .slice a' n' c']] w fun e w' => e = .returned (.bool true) ∧ Up w w' := by
  have U0 := (Up.refl w).alloc (.cells #[.int .i64 h, .int .i64 m, .int .i64 s, .int .i64 N, .slice a n c, .int .i64 ah, .slice a' n' c'] 46)
  have HF := Lib.hid (fun w' (u : Up w w') => l_fit_any (h := h) (m := m) (s := s) (d := N) (ah := ah) (c := c) (c' := c') (A.up u) (B.up u))
  rw [hf] at HF
  have hE : D.townE h m s N L ah M = 10 ∨ D.townE h m s N L ah M = 12 := by
    unfold D.townE
    split
    · rename_i hv
      rw [D.fits, hv, Bool.true_and] at hf
      rw [if_neg (by rw [hf]; simp)]
      exact .inr rfl
    · exact .inl rfl
  have hne : ¬ D.townE h m s N L ah M = 0 := by rcases hE with e | e <;> rw [e] <;> simp
  have HT := Lib.hid (fun w' (u : Up w w') => Twice_no (h := h) (m := m) (s := s) (d := N) (c := c) (c' := c') (ah := ah) (A.up u) (B.up u) hne)
  obtain ⟨E, hEE⟩ : ∃ E, D.townE h m s N L ah M = E := ⟨_, rfl⟩
  rw [hEE] at hE HT
  have c0 : mblk (w.alloc (.cells #[.int .i64 h, .int .i64 m, .int .i64 s, .int .i64 N, .slice a n c, .int .i64 ah, .slice a' n' c'] 46)) w.heap.size = some (.cells #[.int .i64 h, .int .i64 m, .int .i64 s, .int .i64 N, .slice a n c, .int .i64 ah, .slice a' n' c'] 46 (0, 0)) := blk_new _ _ _ rfl
  clear A B hf hEE hne
  rcases hE with rfl | rfl
  all_goals
    go_enter Try.func14, Try.ntmps14
    go_wp2_with fail
    refine (HT.out _ U0).mono ?_
    rintro e w1 ⟨rfl, u1⟩
    have U1 := U0.trans u1
    have c1 := u1.blk c0
    have f1 := cellB c1
    clear u1 U0 c0 HT
    go_wp2_with fail
    refine (HF.out _ U1).mono ?_
    rintro e w2 ⟨rfl, u2⟩
    go_wp2_with fail
    refine (l_works_any _).mono ?_
    rintro e w3 ⟨rfl, u3⟩
    go_wp2
    go_ret
    exact ⟨rfl, (U1.trans u2).trans u3⟩

set_option maxRecDepth 100000 in
set_option maxHeartbeats 1000000 in
theorem dialTwice_none {h m s : Int} {N : Nat} {a : Option Addr} {n c : Nat} {L : List (Int × Bool)} {ah : Int} {a' : Option Addr} {n' c' : Nat} {M : List (Int × Int)} {w : World} (A : CalArg w a n c L) (B : TownArg w a' n' c' M) (hv : D.valid h m s N L = true) (ht : D.townOk (D.beg h m s (D.deeds L L.length) N) ah M = true) (hn : n' = 0) :
    Calls Try.prog 14 #[.agg #[.int .i64 h, .int .i64 m, .int .i64 s, .int .i64 N, .slice a n c, .int .i64 ah, .slice a' n' c']] w fun e w' => e = .returned (.bool true) ∧ Up w w' := by
  have U0 := (Up.refl w).alloc (.cells #[.int .i64 h, .int .i64 m, .int .i64 s, .int .i64 N, .slice a n c, .int .i64 ah, .slice a' n' c'] 46)
  obtain ⟨h1, h2, m1, m2, s1, s2, d1, d2⟩ := D.valid_bd hv
  have hf : D.fits h m s N L ah M = true := by rw [D.fits, hv, Bool.true_and, Int.toNat_natCast]; exact ht
  have HF := Lib.hid (fun w' (u : Up w w') => l_fit_any (h := h) (m := m) (s := s) (d := N) (ah := ah) (c := c) (c' := c') (A.up u) (B.up u))
  rw [hf] at HF
  have hl := B.len
  have HTot := Lib.hid (fun w' (u : Up w w') => l_ticksOf_any (h := h) (m := m) (s := s) (c := c) (A.up u) hv)
  have HT := Lib.hid (fun w' (u : Up w w') => Twice_yes (h := h) (m := m) (s := s) (d := N) (c := c) (c' := c') (ah := ah) (A.up u) (B.up u) hv ht)
  obtain ⟨r, er, hr⟩ := D.twice_dup h1 h2 m1 m2 s1 s2 (by omega) ht
  have r0 := D.twice_rises h1 h2 m1 m2 s1 s2 (by omega) ht (fun j hj => by omega) hr
  rw [Int.toNat_natCast] at HT HTot
  rw [er, r0] at HT
  have z0 : ((n' : Int) == 0) = true := by simp [hn]
  generalize D.beg h m s (D.deeds L L.length) N = T at *
  have c0 : mblk (w.alloc (.cells #[.int .i64 h, .int .i64 m, .int .i64 s, .int .i64 N, .slice a n c, .int .i64 ah, .slice a' n' c'] 46)) w.heap.size = some (.cells #[.int .i64 h, .int .i64 m, .int .i64 s, .int .i64 N, .slice a n c, .int .i64 ah, .slice a' n' c'] 46 (0, 0)) := blk_new _ _ _ rfl
  clear A B hf hr er hl hv ht hn
  go_enter Try.func14, Try.ntmps14
  go_wp2_with fail
  refine (HT.out _ U0).mono ?_
  rintro e w1 ⟨rfl, u1⟩
  have U1 := U0.trans u1
  have c1 := u1.blk c0
  have f1 := cellB c1
  clear u1 U0 c0 HT
  go_wp2_with fail
  refine (HF.out _ U1).mono ?_
  rintro e w2 ⟨rfl, u2⟩
  have U2 := U1.trans u2
  have c2 := u2.blk c1
  have f2 := cellB c2
  clear u2 U1 c1 f1 HF
  go_wp2_with fail
  refine (HTot.out _ U2).mono ?_
  rintro e w3 ⟨rfl, u3⟩
  have U3 := U2.trans u3
  have f3 := cellB (u3.blk c2)
  clear u3 U2 c2 f2 HTot
  go_wp2_with fail
  refine (l_works_any _).mono ?_
  rintro e w4 ⟨rfl, u4⟩
  go_wp2
  go_ret
  exact ⟨rfl, U3.trans u4⟩

theorem Try.infoChange : (Try.prog.info? 82).map (fun i => (i.zero, i.size, i.bytes)) = some (some (.agg #[.int .i64 0, .int .i64 0]), 2, 16) := by kernel_rfl
theorem D.add_atW (b off j : Nat) : (⟨b, off, none⟩ : Addr).add j = ⟨b, off + j, none⟩ := by
  unfold Addr.add
  split
  · rename_i h; subst h; rfl
  · rfl
/-- the cells of some changes -/
def D.chgCells (M : List (Int × Int)) : List Value := M.flatMap fun z => [.int .i64 z.1, .int .i64 z.2]
theorem D.chgCells_len (M : List (Int × Int)) : (D.chgCells M).length = M.length * 2 := by
  induction M with
  | nil => rfl
  | cons z M ih => simp only [D.chgCells, List.flatMap_cons, List.length_append, List.length_cons, List.length_nil] at *; omega
theorem D.chgCells_at (M : List (Int × Int)) (j : Nat) (hj : j < M.length) : (D.chgCells M)[j * 2]? = some (.int .i64 (M.getD j (0, 0)).1) ∧ (D.chgCells M)[j * 2 + 1]? = some (.int .i64 (M.getD j (0, 0)).2) := by
  induction M generalizing j with
  | nil => simp at hj
  | cons z M ih =>
    cases j with
    | zero => exact ⟨rfl, rfl⟩
    | succ j =>
      have e : (j + 1) * 2 = j * 2 + 1 + 1 := by omega
      rw [e]
      simp only [D.chgCells, List.flatMap_cons, List.cons_append, List.nil_append, List.getElem?_cons_succ, List.getD_cons_succ]
      exact ih j (by simpa using hj)
theorem D.chgCells_one (M : List (Int × Int)) : ∀ u ∈ D.chgCells M, u.oneCell' = true := by
  intro u hu
  simp only [D.chgCells, List.mem_flatMap, List.mem_cons, List.not_mem_nil, or_false] at hu
  obtain ⟨z, _, rfl | rfl⟩ := hu <;> rfl
theorem Chgs.cells {w : World} {b off : Nat} {M : List (Int × Int)} (hD : Chgs w b off M) (k : Nat) (hk : k ≤ M.length) : ∀ j u, (D.chgCells (M.take k))[j]? = some u → w.cell? ⟨b, off + j, none⟩ = some u := by
  intro j u hj
  have hl : j < (D.chgCells (M.take k)).length := by
    by_cases e : j < (D.chgCells (M.take k)).length
    · exact e
    · rw [List.getElem?_eq_none (by omega)] at hj; cases hj
  rw [D.chgCells_len, List.length_take] at hl
  have ht : ∀ i, i < k → (M.take k).getD i (0, 0) = M.getD i (0, 0) := fun i hi => by
    rw [List.getD_eq_getElem?_getD, List.getD_eq_getElem?_getD, List.getElem?_take_of_lt hi]
  obtain ⟨i, e | e⟩ : ∃ i, j = i * 2 ∨ j = i * 2 + 1 := ⟨j / 2, by omega⟩
  · subst e
    have := (D.chgCells_at (M.take k) i (by rw [List.length_take]; omega)).1
    rw [ht i (by omega)] at this
    rw [this] at hj
    rw [← Option.some.inj hj]
    exact hD.tick i (by omega)
  · subst e
    have := (D.chgCells_at (M.take k) i (by rw [List.length_take]; omega)).2
    rw [ht i (by omega)] at this
    rw [this] at hj
    rw [← Option.some.inj hj, ← Nat.add_assoc]
    exact hD.ahead i (by omega)
/-- a new slice of changes, as an argument has it -/
theorem D.ownChgs {w : World} {base : Nat} {v : Value} {k : Nat} {M : List (Int × Int)} (hl : M.length = k) (h : w.ownsRow base 82 2 v k (D.chgCells M)) (hn : ¬ v = .slice none 0 0) : ∃ g cap cur, v = .slice (some ⟨g, 0, none⟩) k cap ∧ base ≤ g ∧ mblk w g = some (.cells cur 82 (0, 0)) ∧ ∀ w', mblk w' g = some (.cells cur 82 (0, 0)) → TownArg w' (some ⟨g, 0, none⟩) k cap M := by
  obtain ⟨_, ⟨h1, _⟩ | ⟨g, cap, cur, rfl, hb, hg, h3, h4, h5, h6⟩⟩ := h
  · exact absurd h1 hn
  · refine ⟨g, cap, cur, rfl, hb, hg, fun w' hw => ⟨hl.symm, by unfold maxLen at h4; omega, fun _ => ⟨g, 0, rfl, blk_lt hw, fun j hj => ?_, fun j hj => ?_⟩⟩⟩
    · rw [cellB hw, Nat.zero_add, ← (D.chgCells_at M j hj).1, ← h6, List.getElem?_take_of_lt (by omega)]
      simp
    · rw [cellB hw, Nat.zero_add, ← (D.chgCells_at M j hj).2, ← h6, List.getElem?_take_of_lt (by omega)]
      simp

set_option maxRecDepth 100000 in
set_option maxHeartbeats 4000000 in
theorem dialTwice_yes {h m s : Int} {N : Nat} {a : Option Addr} {n c : Nat} {L : List (Int × Bool)} {ah : Int} {b off : Nat} {n' c' : Nat} {M : List (Int × Int)} {w : World} (A : CalArg w a n c L) (B : TownArg w (some ⟨b, off, none⟩) n' c' M) (hC : Chgs w b off M) (hcap : n' ≤ c') (hv : D.valid h m s N L = true) (ht : D.townOk (D.beg h m s (D.deeds L L.length) N) ah M = true) (k : Nat) (hk : n' = k + 1) :
    Calls Try.prog 14 #[.agg #[.int .i64 h, .int .i64 m, .int .i64 s, .int .i64 N, .slice a n c, .int .i64 ah, .slice (some ⟨b, off, none⟩) n' c']] w fun e w' => e = .returned (.bool true) ∧ Up w w' := by
  have U0 := (Up.refl w).alloc (.cells #[.int .i64 h, .int .i64 m, .int .i64 s, .int .i64 N, .slice a n c, .int .i64 ah, .slice (some ⟨b, off, none⟩) n' c'] 46)
  obtain ⟨h1, h2, m1, m2, s1, s2, d1, d2⟩ := D.valid_bd hv
  have hf : D.fits h m s N L ah M = true := by rw [D.fits, hv, Bool.true_and, Int.toNat_natCast]; exact ht
  have HF := Lib.hid (fun w' (u : Up w w') => l_fit_any (h := h) (m := m) (s := s) (d := N) (ah := ah) (c := c) (c' := c') (A.up u) (B.up u))
  rw [hf] at HF
  have hl := B.len
  have hkM : M.length = k + 1 := by omega
  have tb := D.beg_bd h m s (D.deeds L L.length) h1 h2 m1 m2 s1 s2 N
  obtain ⟨a1, a2, ml, mb, mi⟩ := D.town_bd ht
  have ht' := D.townOk_drop ht
  have HTot := Lib.hid (fun w' (u : Up w w') => l_ticksOf_any (h := h) (m := m) (s := s) (c := c) (A.up u) hv)
  have HT := Lib.hid (fun w' (u : Up w w') => Twice_yes (h := h) (m := m) (s := s) (d := N) (c := c) (c' := c') (ah := ah) (A.up u) (B.up u) hv ht)
  have HT2 := Lib.hid (fun g cap w' (u : Up w w') (B' : TownArg w' (some ⟨g, 0, none⟩) k cap M.dropLast) => Twice_yes (h := h) (m := m) (s := s) (d := N) (c := c) (ah := ah) (A.up u) B' hv ht')
  obtain ⟨r, er, hr⟩ := D.twice_dup h1 h2 m1 m2 s1 s2 (by omega) ht
  obtain ⟨r', er', hr'⟩ := D.twice_dup h1 h2 m1 m2 s1 s2 (by omega) ht'
  have q1 := D.twice_first h1 h2 m1 m2 s1 s2 (by omega) ht (by omega) hr
  have q2 := fun hri => D.twice_rises h1 h2 m1 m2 s1 s2 (by omega) ht hri hr
  have q3 := D.twice_drop hkM ht hr hr'
  have qle := D.Dup.le _ r hr
  have qle' := D.Dup.le _ r' hr'
  rw [Int.toNat_natCast] at HT HTot HT2
  rw [er] at HT
  rw [er'] at HT2
  have b0 := mb 0 (by omega)
  have bk := mb k (by omega)
  have HTick := Lib.hid hC.tick
  have HAhead := Lib.hid hC.ahead
  have HNews := Lib.hid (hC.cells k (by omega))
  have hlt := hC.lt
  have hTk : M.take k = M.dropLast := by rw [List.dropLast_eq_take, hkM]; rfl
  rw [hTk] at HNews
  have hlk : M.dropLast.length = k := by rw [List.length_dropLast, hkM]; rfl
  have y0 := hC.tick 0 (by omega)
  have yk := hC.tick k (by omega)
  rw [Nat.zero_mul, Nat.add_zero] at y0
  generalize D.beg h m s (D.deeds L L.length) N = T at *
  generalize (M.getD 0 (0, 0)).1 = F at *
  generalize (M.getD k (0, 0)).1 = E at *
  have z0 : ((n' : Int) == 0) = false := by rw [hk]; simp; omega
  obtain ⟨ii, hin, hz0, hz1, hz2⟩ := info_parts Try.infoChange
  have ek : IntKind.i64.wrap ((n' : Int) - 1) = (k : Int) := by rw [IntWalk.i64_in _ (by omega)]; omega
  have hkn : (k : Int) < (n' : Int) := by omega
  have hkc : (k : Int) ≤ (c' : Int) := by omega
  have n6 : n' ≤ 6 := by omega
  have Q2 := Lib.hid q2
  have HLK := Lib.hid hlk
  have HMl := Lib.hid hl
  have c0 : mblk (w.alloc (.cells #[.int .i64 h, .int .i64 m, .int .i64 s, .int .i64 N, .slice a n c, .int .i64 ah, .slice (some ⟨b, off, none⟩) n' c'] 46)) w.heap.size = some (.cells #[.int .i64 h, .int .i64 m, .int .i64 s, .int .i64 N, .slice a n c, .int .i64 ah, .slice (some ⟨b, off, none⟩) n' c'] 46 (0, 0)) := blk_new _ _ _ rfl
  clear A B hC hf hr hr' er er' hv ht ht' mb mi q2 hTk hlk hl hkM hk hcap
  go_enter Try.func14, Try.ntmps14
  go_wp2_with fail
  refine (HT.out _ U0).mono ?_
  rintro e w1 ⟨rfl, u1⟩
  have U1 := U0.trans u1
  have c1 := u1.blk c0
  have f1 := cellB c1
  clear u1 U0 c0 HT
  go_wp2_with fail
  refine (HF.out _ U1).mono ?_
  rintro e w2 ⟨rfl, u2⟩
  have U2 := U1.trans u2
  have c2 := u2.blk c1
  have f2 := cellB c2
  clear u2 U1 c1 f1 HF
  go_wp2_with fail
  refine (HTot.out _ U2).mono ?_
  rintro e w3 ⟨rfl, u3⟩
  have U3 := U2.trans u3
  have c3 := u3.blk c2
  have f3 := cellB c3
  clear u3 U2 c2 f2 HTot
  go_wp2_with fail
  refine wp_region_held_drew (S := fun w' => Up w w' ∧ mblk w' w.heap.size = some (.cells #[.int .i64 h, .int .i64 m, .int .i64 s, .int .i64 N, .slice a n c, .int .i64 ah, .slice (some ⟨b, off, none⟩) n' c'] 46 (0, 0))) (by kernel_rfl) ⟨U3.drew, by rw [blk_drew]; exact c3⟩ (fun hHeld => ?_)
  clear U3 c3 f3
  refine takeH (i := 0) (d := (some 60)) (v := ?v1) rfl rfl (by kernel_rfl) (by kernel_rfl) (by kernel_rfl) (fun _ _ _ h => h) (by rfl) ?hy1 (by assumption) ?_
  case hy1 => ((intro w hSw; (try dsimp only at hSw); (try go_split_ands); go_simp); try with_reducible rfl)
  simp only [Act.put, List.setIfInBounds_toArray, List.set_cons_zero, List.set_cons_succ]
  refine takeH (i := 3) (d := (some 7)) (v := ?v2) rfl rfl (by kernel_rfl) (by kernel_rfl) (by kernel_rfl) (fun _ _ _ h => h) (by rfl) ?hy2 (by assumption) ?_
  case hy2 => ((intro w hSw; (try dsimp only at hSw); (try go_split_ands); go_simp); try with_reducible rfl)
  simp only [Act.put, List.setIfInBounds_toArray, List.set_cons_zero, List.set_cons_succ]
  refine takeH (i := 1) (d := (some 61)) (v := ?v3) rfl rfl (by kernel_rfl) (by kernel_rfl) (by kernel_rfl) (fun _ _ _ h => h) (by rfl) ?hy3 (by assumption) ?_
  case hy3 => ((intro w hSw; (try dsimp only at hSw); (try go_split_ands); go_simp); try with_reducible rfl)
  simp only [Act.put, List.setIfInBounds_toArray, List.set_cons_zero, List.set_cons_succ]
  refine takeH (i := 2) (d := (some 62)) (v := ?v4) rfl rfl (by kernel_rfl) (by kernel_rfl) (by kernel_rfl) (fun _ _ _ h => h) (by rfl) ?hy4 (by assumption) ?_
  case hy4 => ((intro w hSw; (try dsimp only at hSw); (try go_split_ands); go_simp); try with_reducible rfl)
  simp only [Act.put, List.setIfInBounds_toArray, List.set_cons_zero, List.set_cons_succ]
  refine takeH (i := 4) (d := (some 8)) (v := ?v5) rfl rfl (by kernel_rfl) (by kernel_rfl) (by kernel_rfl) (fun _ _ _ h => h) (by rfl) ?hy5 (by assumption) ?_
  case hy5 => ((intro w hSw; (try dsimp only at hSw); (try go_split_ands); go_simp); try with_reducible rfl)
  simp only [Act.put, List.setIfInBounds_toArray, List.set_cons_zero, List.set_cons_succ]
  refine wpAnyH_done (by kernel_rfl) ?_ _
  obtain ⟨U4, c4⟩ := hHeld
  go_wp2_with fail
  go_loopw [7, 8, 9] (fun rv lv iv wr => ∃ (j : Nat) (ρ : Bool) (x : Int), j ≤ n' ∧ rv = .bool ρ ∧ lv = .int .i64 x ∧ iv = .int .i64 j ∧ Hid (x = if j = 0 then ah else (M.getD (j - 1) (0, 0)).2) ∧ Hid (ρ = true → ∀ i, i < j → (if i = 0 then ah else (M.getD (i - 1) (0, 0)).2) ≤ (M.getD i (0, 0)).2) ∧ mblk wr w.heap.size = some (.cells #[.int .i64 h, .int .i64 m, .int .i64 s, .int .i64 N, .slice a n c, .int .i64 ah, .slice (some ⟨b, off, none⟩) n' c'] 46 (0, 0)) ∧ Up w wr) (fun _ _ iv _ => n' - (intOf iv).toNat)
  case atStart => exact ⟨0, true, ah, Nat.zero_le _, rfl, rfl, rfl, rfl, fun _ i hi => absurd hi (by omega), c4, U4⟩
  case round =>
    clear c4 U4
    obtain ⟨j, ρ, x, hj, rfl, rfl, rfl, hx, hρ, cj, Uj⟩ := hrel
    have fj := cellB cj
    by_cases hjn : j < n'
    · have hjM : j < M.length := by rw [← HMl.out]; exact hjn
      have HJ := Lib.hid (show j + 1 ≤ n' from hjn)
      have e2 := (Uj.facts.1 b _ hlt).trans (HAhead.out j hjM)
      have hx2 : Hid ((M.getD j (0, 0)).2 = if j + 1 = 0 then ah else (M.getD (j + 1 - 1) (0, 0)).2) := by show _ = _; rw [if_neg (by omega), Nat.add_sub_cancel]
      obtain ⟨zz, hzz⟩ : ∃ zz, (M.getD j (0, 0)).2 = zz := ⟨_, rfl⟩
      rw [hzz] at e2 hx2
      obtain ⟨ρ2, hρ2⟩ : ∃ ρ2, ρ2 = (ρ && decide (x ≤ zz)) := ⟨_, rfl⟩
      have h3 : Hid (ρ2 = true → ∀ i, i < j + 1 → (if i = 0 then ah else (M.getD (i - 1) (0, 0)).2) ≤ (M.getD i (0, 0)).2) := by
        intro e i hi
        rw [hρ2, Bool.and_eq_true, decide_eq_true_eq] at e
        by_cases g : i < j
        · exact hρ.out e.1 i g
        · obtain rfl : i = j := by omega
          rw [← hx.out, hzz]
          exact e.2
      clear hx hρ hzz hjM HTick HAhead HNews HT2 Q2 HMl HLK
      cases ρ
      · obtain rfl : ρ2 = false := by rw [hρ2]; rfl
        clear hρ2
        go_wp2
        go_roundw
        case rel => exact ⟨j + 1, false, zz, HJ.out, rfl, rfl, by go_num, hx2, h3, cj, Uj⟩
        case measure => have := HJ.out; simp [intOf]; omega
      · by_cases g : x ≤ zz
        · obtain rfl : ρ2 = true := by rw [hρ2]; simp [g]
          clear hρ2
          go_wp2
          go_roundw
          case rel => exact ⟨j + 1, true, zz, HJ.out, rfl, rfl, by go_num, hx2, h3, cj, Uj⟩
          case measure => have := HJ.out; simp [intOf]; omega
        · obtain rfl : ρ2 = false := by rw [hρ2]; simp [g]
          clear hρ2
          go_wp2
          go_roundw
          case rel => exact ⟨j + 1, false, zz, HJ.out, rfl, rfl, by go_num, hx2, h3, cj, Uj⟩
          case measure => have := HJ.out; simp [intOf]; omega
    · obtain rfl : n' = j := by omega
      have Ek := (Uj.facts.1 b _ hlt).trans yk
      have lj := blk_lt cj
      have gj := hlt
      have QR : Hid (ρ = true → r = 0) := fun e => Q2.out (fun i hi => hρ.out e i (by have := HMl.out; omega))
      have tk0 : 0 ≤ (k : Int) := by omega
      have rr := r
      have rb : 0 ≤ (r : Int) ∧ (r : Int) ≤ T ∧ 0 ≤ (r' : Int) ∧ (r' : Int) ≤ T := by omega
      have rb2 : T ≤ 1000000 := by omega
      have d1' : inB (r : Int) 0 (T - F) = true := inB_yes (by omega) (by omega)
      have d3 : (r' : Int) - r ≤ T - E := q3.2
      have d4 : (r : Int) - r' ≤ T - E := q3.1
      clear hρ hx Q2 HAhead HMl HTick q1 q3 qle qle' hjn hj
      obtain ⟨a0, ha0⟩ : ∃ a0 : Int, (r : Int) = a0 := ⟨_, rfl⟩
      obtain ⟨a1', ha1⟩ : ∃ a1' : Int, (r' : Int) = a1' := ⟨_, rfl⟩
      have QZ : Hid (ρ = true → a0 = 0) := fun e => by have := QR.out e; rw [← ha0, this]; rfl
      rw [ha0] at d1' d3 d4 rb
      rw [ha1] at d3 d4 rb HT2
      rw [ha0]
      clear QR ha0 ha1
      go_wp2_with (at_builtin; refine wpList_append_own _ rfl (.tmp 103) (.tmp 112) 42 rfl (wr.heap.size + 1) 82 ii (.agg #[.int .i64 0, .int .i64 0]) 2 16 Try.underlying42 hin hz0 hz1 hz2 rfl (by decide) _ 0 [] rfl ⟨rfl, .inr ⟨wr.heap.size + 1, 0, #[], rfl, Nat.le_refl _, blk_new _ _ _ (by simp), Nat.le_refl _, Nat.zero_le _, rfl, rfl⟩⟩ ⟨b, off, none⟩ k c' (D.chgCells M.dropLast) rfl (by rw [D.chgCells_len, HLK.out]) (fun j u hj => by rw [D.add_atW]; exact (((Uj.alloc _).alloc _).facts.1 b _ hlt).trans (HNews.out j u hj)) (D.chgCells_one M.dropLast) (by unfold maxLen; omega) (by omega) (by simp) ?_; intro v' w3 hown3 hgrow3 hne; obtain ⟨g, cap, cur, rfl, hg1, g3, HB3⟩ := D.ownChgs HLK.out (by simpa using hown3) (fun e => (by have q : (Value.slice (some ⟨wr.heap.size + 1, 0, none⟩) 0 0) = .slice none 0 0 := (hne.1 e).1; cases q)); have gne : ∀ q : Nat, q < wr.heap.size + 1 → some q ≠ (Value.slice (some ⟨wr.heap.size + 1, 0, none⟩) 0 0).ownBlock := fun q hq => (by intro hq2; simp [Value.ownBlock] at hq2; omega); have c3 := grown_blk hgrow3 (blk_keep _ (blk_keep _ cj)) (gne _ (by omega)); have x3 := grown_blk hgrow3 (blk_keep _ (blk_new wr (.cells #[.int .i64 ah, .slice (some ⟨b, off, none⟩) n' c'] 44) _ rfl)) (gne _ (by omega)); have U3 := ((Uj.alloc _).alloc _).grown hgrow3 (fun q hq => (by have hq' : (Value.slice (some ⟨wr.heap.size + 1, 0, none⟩) 0 0).ownBlock = some q := hq; simp [Value.ownBlock] at hq'; have := Uj.size; omega)); have z3 := frozB x3)
      have p0 := Uj.size
      obtain ⟨p, hp⟩ : ∃ p, wr.heap.size = p := ⟨_, rfl⟩
      rw [hp] at lj x3 hg1 z3 p0 ⊢
      have ne1 : w.heap.size ≠ p := by omega
      have ne2 : g ≠ p := by omega
      have fc : ∀ v j, (w3.setCell ⟨p, 1, none⟩ v).cell? ⟨w.heap.size, j, none⟩ = (#[.int .i64 h, .int .i64 m, .int .i64 s, .int .i64 N, .slice a n c, .int .i64 ah, .slice (some ⟨b, off, none⟩) n' c'] : Array Value)[j]? := fun v j => cellB (by rw [blk_set _ _ _ _ (by show w.heap.size ≠ p; omega)]; exact c3) j
      clear gne hgrow3 hown3 hne cj fj Ek Uj hp
      go_wp2_with fail
      obtain ⟨W4, hW4⟩ : ∃ W4, w3.setCell ⟨p, 1, none⟩ (.slice (some ⟨g, 0, none⟩) k cap) = W4 := ⟨_, rfl⟩
      rw [hW4]
      have c4 : mblk W4 w.heap.size = some (.cells #[.int .i64 h, .int .i64 m, .int .i64 s, .int .i64 N, .slice a n c, .int .i64 ah, .slice (some ⟨b, off, none⟩) n' c'] 46 (0, 0)) := by rw [← hW4, blk_set _ _ _ _ (by show w.heap.size ≠ p; omega)]; exact c3
      have g4 : mblk W4 g = some (.cells cur 82 (0, 0)) := by rw [← hW4, blk_set _ _ _ _ (by show g ≠ p; omega)]; exact g3
      have U4 : Up w W4 := by rw [← hW4]; exact U3.set (by show w.heap.size ≤ p; omega) _
      clear hW4 c3 x3 g3 U3 z3 fc
      refine (HT2.out g cap W4 U4 (HB3 _ g4)).mono ?_
      rintro e w5 ⟨rfl, u5⟩
      have U5 := U4.trans u5
      have c5 := u5.blk c4
      have f5 := cellB c5
      have F5 := (U5.facts.1 b _ hlt).trans y0
      have HL := Lib.hid (fun w => show Calls Try.prog 44 #[.int .i64 a0, .int .i64 0, .int .i64 (T - F)] w fun e w' => e = .returned (.bool true) ∧ w = w' by rw [← d1']; exact l_Lies_any _ _ _ w)
      clear u5 U4 c4 g4 HT2 HB3 HNews d1'
      cases ρ
      case' false => have z1 : True := trivial
      case' true => have z1 : (a0 == 0) = true := by have := QZ.out rfl; simp [this]
      all_goals
        clear QZ
        go_wp2_with fail
        refine (HL.out _).mono ?_
        rintro e w6 ⟨rfl, rfl⟩
        go_wp2_with fail
        refine (l_works_any _).mono ?_
        rintro e w7 ⟨rfl, u7⟩
        go_wp2
        go_ret
        exact ⟨rfl, U5.trans u7⟩

theorem dialTwice_any {h m s d : Int} {a : Option Addr} {n c : Nat} {L : List (Int × Bool)} {ah : Int} {a' : Option Addr} {n' c' : Nat} {M : List (Int × Int)} {w : World} (A : CalArg w a n c L) (B : TownArg w a' n' c' M) (hcap : n' ≤ c') :
    Calls Try.prog 14 #[.agg #[.int .i64 h, .int .i64 m, .int .i64 s, .int .i64 d, .slice a n c, .int .i64 ah, .slice a' n' c']] w fun e w' => e = .returned (.bool true) ∧ Up w w' := by
  cases hf : D.fits h m s d L ah M
  · exact dialTwice_no A B hf
  · rw [D.fits, Bool.and_eq_true] at hf
    obtain ⟨hv, ht⟩ := hf
    obtain ⟨h1, h2, m1, m2, s1, s2, d1, d2⟩ := D.valid_bd hv
    obtain ⟨N, rfl⟩ : ∃ N : Nat, d = N := ⟨d.toNat, by omega⟩
    rw [Int.toNat_natCast] at ht
    by_cases hn : n' = 0
    · exact dialTwice_none A B hv ht hn
    · obtain ⟨b, off, rfl, hC⟩ := B.mem (by omega)
      exact dialTwice_yes A B hC hcap hv ht (n' - 1) (by omega)

end Go.Proofs.Ytnkeofobhlafkaa
