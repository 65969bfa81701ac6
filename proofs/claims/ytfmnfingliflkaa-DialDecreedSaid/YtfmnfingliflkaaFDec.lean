import Derived.Test.YtfmnfingliflkaaLawI
/- The walk of the law DialDecreed. -/
namespace Go.Proofs.Ytfmnfingliflkaa
open Go.RowKit
theorem cell_BOX2d {w : World} {b : Nat} {cs : Array Value} (h : mblk w b = some (.cells cs 25 (0, 0))) (j : Nat) : w.cell? ⟨b, j, none⟩ = cs[j]? := cellB h j
theorem cell_DEC {w : World} {b : Nat} {cs : Array Value} (h : mblk w b = some (.cells cs 64 (0, 0))) (j : Nat) : w.cell? ⟨b, j, none⟩ = cs[j]? := cellB h j
attribute [local go_sem] cell_BOX2d cell_DEC cell_CAL
theorem Try.infoDecree : (Try.prog.info? 64).map (fun i => (i.zero, i.size, i.bytes)) = some (some (.agg #[.int .i64 0, .bool false]), 2, 16) := by kernel_rfl

theorem D.add_at (b off j : Nat) : (⟨b, off, none⟩ : Addr).add j = ⟨b, off + j, none⟩ := by
  unfold Addr.add
  split
  · rename_i h; subst h; rfl
  · rfl
/-- the cells of some decrees -/
def D.decCells (L : List (Int × Bool)) : List Value := L.flatMap fun z => [.int .i64 z.1, .bool z.2]
theorem D.decCells_len (L : List (Int × Bool)) : (D.decCells L).length = L.length * 2 := by
  induction L with
  | nil => rfl
  | cons z L ih => simp only [D.decCells, List.flatMap_cons, List.length_append, List.length_cons, List.length_nil] at *; omega
theorem D.decCells_at (L : List (Int × Bool)) (j : Nat) (hj : j < L.length) : (D.decCells L)[j * 2]? = some (.int .i64 (L.getD j (0, false)).1) ∧ (D.decCells L)[j * 2 + 1]? = some (.bool (L.getD j (0, false)).2) := by
  induction L generalizing j with
  | nil => simp at hj
  | cons z L ih =>
    cases j with
    | zero => exact ⟨rfl, rfl⟩
    | succ j =>
      have e : (j + 1) * 2 = j * 2 + 1 + 1 := by omega
      rw [e]
      simp only [D.decCells, List.flatMap_cons, List.cons_append, List.nil_append, List.getElem?_cons_succ, List.getD_cons_succ]
      exact ih j (by simpa using hj)
theorem D.decCells_one (L : List (Int × Bool)) : ∀ u ∈ D.decCells L, u.oneCell' = true := by
  intro u hu
  simp only [D.decCells, List.mem_flatMap, List.mem_cons, List.not_mem_nil, or_false] at hu
  obtain ⟨z, _, rfl | rfl⟩ := hu <;> rfl
theorem Decs.cells {w : World} {b off : Nat} {L : List (Int × Bool)} (hD : Decs w b off L) (k : Nat) (hk : k ≤ L.length) : ∀ j u, (D.decCells (L.take k))[j]? = some u → w.cell? ⟨b, off + j, none⟩ = some u := by
  intro j u hj
  have hl : j < (D.decCells (L.take k)).length := by
    by_cases e : j < (D.decCells (L.take k)).length
    · exact e
    · rw [List.getElem?_eq_none (by omega)] at hj; cases hj
  rw [D.decCells_len, List.length_take] at hl
  have ht : ∀ i, i < k → (L.take k).getD i (0, false) = L.getD i (0, false) := fun i hi => by
    rw [List.getD_eq_getElem?_getD, List.getD_eq_getElem?_getD, List.getElem?_take_of_lt hi]
  obtain ⟨i, e | e⟩ : ∃ i, j = i * 2 ∨ j = i * 2 + 1 := ⟨j / 2, by omega⟩
  · subst e
    have := (D.decCells_at (L.take k) i (by rw [List.length_take]; omega)).1
    rw [ht i (by omega)] at this
    rw [this] at hj
    rw [← Option.some.inj hj]
    exact hD.day i (by omega)
  · subst e
    have := (D.decCells_at (L.take k) i (by rw [List.length_take]; omega)).2
    rw [ht i (by omega)] at this
    rw [this] at hj
    rw [← Option.some.inj hj, ← Nat.add_assoc]
    exact hD.plus i (by omega)
/-- a new slice of decrees, as an argument has it -/
theorem D.ownDecs {w : World} {base : Nat} {v : Value} {k : Nat} {L : List (Int × Bool)} (hl : L.length = k) (h : w.ownsRow base 64 2 v k (D.decCells L)) (hn : ¬ v = .slice none 0 0) : ∃ g cap cur, v = .slice (some ⟨g, 0, none⟩) k cap ∧ base ≤ g ∧ mblk w g = some (.cells cur 64 (0, 0)) ∧ ∀ w', mblk w' g = some (.cells cur 64 (0, 0)) → CalArg w' (some ⟨g, 0, none⟩) k cap L := by
  obtain ⟨_, ⟨h1, _⟩ | ⟨g, cap, cur, rfl, hb, hg, h3, h4, h5, h6⟩⟩ := h
  · exact absurd h1 hn
  · refine ⟨g, cap, cur, rfl, hb, hg, fun w' hw => ⟨hl.symm, by unfold maxLen at h4; omega, fun _ => ⟨g, 0, rfl, blk_lt hw, fun j hj => ?_, fun j hj => ?_⟩⟩⟩
    · rw [cellB hw, Nat.zero_add, ← (D.decCells_at L j hj).1, ← h6, List.getElem?_take_of_lt (by omega)]
      simp
    · rw [cellB hw, Nat.zero_add, ← (D.decCells_at L j hj).2, ← h6, List.getElem?_take_of_lt (by omega)]
      simp

set_option maxRecDepth 100000 in
set_option maxHeartbeats 3000000 in
theorem dialDecreed_any {h m s d : Int} {a : Option Addr} {n c : Nat} {L : List (Int × Bool)} {w : World} (A : CalArg w a n c L) (hcap : n ≤ c) (n0 n1 : Int) :
    Calls Try.prog 9 #[.agg #[.int .i64 h, .int .i64 m, .int .i64 s, .int .i64 d, .slice a n c], .agg #[.int .i64 n0, .int .i64 n1]] w fun e w' => e = .returned (.bool true) ∧ Up w w' := by
  have U0 := ((Up.refl w).alloc (.cells #[.int .i64 h, .int .i64 m, .int .i64 s, .int .i64 d, .slice a n c] 24)).alloc (.cells #[.int .i64 n0, .int .i64 n1] 25)
  have A0 := A.up U0
  have H0 := Lib.hid (l_sound_any (h := h) (m := m) (s := s) (d := d) A0)
  cases hv : D.valid h m s d L
  · rw [hv] at H0
    clear A A0 hv U0
    go_enter Try.func9, Try.ntmps9
    go_wp2_with fail
    refine H0.out.mono ?_
    rintro e w1 ⟨rfl, u1⟩
    go_wp2_with fail
    refine (l_works_any _).mono ?_
    rintro e w2 ⟨rfl, u2⟩
    go_wp2
    go_ret
    exact ⟨rfl, (((Up.refl w).alloc _).alloc _).trans (u1.trans u2)⟩
  rw [hv] at H0
  by_cases hn0 : n = 0
  · have z0 : ((n : Int) == 0) = true := by simp [hn0]
    clear A A0 hv hcap hn0
    go_enter Try.func9, Try.ntmps9
    go_wp2_with fail
    obtain ⟨W0, hW0⟩ : ∃ W0, (w.alloc (.cells #[.int .i64 h, .int .i64 m, .int .i64 s, .int .i64 d, .slice a n c] 24)).alloc (.cells #[.int .i64 n0, .int .i64 n1] 25) = W0 := ⟨_, rfl⟩
    rw [hW0] at H0 U0
    have c0 : mblk W0 w.heap.size = some (.cells #[.int .i64 h, .int .i64 m, .int .i64 s, .int .i64 d, .slice a n c] 24) := by rw [← hW0]; exact blk_keep _ (blk_new _ _ _ rfl)
    rw [hW0]
    clear hW0
    refine H0.out.mono ?_
    rintro e w1 ⟨rfl, u1⟩
    have f1 := cellB (u1.blk c0)
    go_wp2_with fail
    refine (l_works_any _).mono ?_
    rintro e w2 ⟨rfl, u2⟩
    go_wp2
    go_ret
    exact ⟨rfl, U0.trans (u1.trans u2)⟩
  have z0 : ((n : Int) == 0) = false := by simp [hn0]
  obtain ⟨k, hk⟩ : ∃ k, n = k + 1 := ⟨n - 1, by omega⟩
  have hl := A.len
  obtain ⟨h1, h2, m1, m2, s1, s2, d1, d2⟩ := D.valid_bd hv
  obtain ⟨N, rfl⟩ : ∃ N : Nat, d = N := ⟨d.toNat, by omega⟩
  have hkL : L.length = k + 1 := by omega
  have n10 : n ≤ 10 := by
    simp only [D.valid, Bool.and_eq_true, decide_eq_true_eq] at hv
    omega
  obtain ⟨dd, e1, e2, e3, e4⟩ := D.decree hkL hv
  obtain ⟨pl, hpl⟩ : ∃ pl, (L.getD k (0, false)).2 = pl := ⟨_, rfl⟩
  obtain ⟨b, off, rfl, hDec⟩ := A.mem (by omega)
  have HDay := hDec.day k (by omega)
  have HPl := hDec.plus k (by omega)
  have HNews := hDec.cells k (by omega)
  have hlt := hDec.lt
  rw [e1] at HDay
  rw [hpl] at HPl
  obtain ⟨V, hV⟩ : ∃ V : Int, V = if pl = true then 1 else -1 := ⟨_, rfl⟩
  obtain ⟨hb, hlen, hr1, hr2⟩ := D.decreed (n := N) hkL hv (by omega) e1 (v := V) (by rw [hpl]; exact hV)
  have hv' := D.valid_drop hv
  have hY := D.deeds_drop hkL
  obtain ⟨P1, P2⟩ := D.mul_bd h m h1 h2 m1 m2
  have Q0 : 1 * 2 ≤ h * m * s := Int.mul_le_mul P1 s1 (by omega) (by omega)
  obtain ⟨Q1, Q2⟩ := D.mul_bd2 (h * m) s (by omega) P2 (by omega) s2
  have T0 := D.beg_bd h m s (D.deeds L (k + 1)) h1 h2 m1 m2 s1 s2 N
  have T1 := D.beg_bd h m s (D.deeds L (k + 1)) h1 h2 m1 m2 s1 s2 dd
  have T2 := D.beg_succ h m s (D.deeds L (k + 1)) dd
  have T3 := D.beg_mono h m s (D.deeds L (k + 1)) h1 h2 m1 m2 s1 s2 (dd + 1) N (by omega)
  have hbN := hb N
  rw [if_pos (by omega)] at hbN
  rw [hlen] at T2
  have vb : V = 1 ∨ V = -1 := by rw [hV]; split <;> simp
  have HLen := Lib.hid (fun w' (u : Up w w') => Length_yes (h := h) (m := m) (s := s) (c := c) (A.up u) dd hv (by omega))
  have HTot := Lib.hid (fun w' (u : Up w w') => l_ticksOf_any (h := h) (m := m) (s := s) (c := c) (A.up u) hv)
  have HFst := Lib.hid (fun w' (u : Up w w') => show Calls Try.prog 24 #[.agg #[.int .i64 h, .int .i64 m, .int .i64 s, .int .i64 N, .slice (some ⟨b, off, none⟩) n c], rd dd 0 0 0] w' fun e w'' => e = .returned (.tuple #[.int .i64 (D.beg h m s (D.deeds L L.length) dd), .int .i64 0]) ∧ Up w' w'' by
    have K := Tick_any (h := h) (m := m) (s := s) (d := N) (c := c) (A.up u) dd 0 0 0
    have l := D.beg_mono h m s (D.deeds L L.length) h1 h2 m1 m2 s1 s2 (dd + 1) N (by omega)
    have b := D.beg_succ h m s (D.deeds L L.length) dd
    have c := D.len_bd h m s (D.deeds L L.length dd) h1 h2 m1 m2 s1 s2
    have t := D.beg_bd h m s (D.deeds L L.length) h1 h2 m1 m2 s1 s2 dd
    have r := D.rd_is (h := h) (m := m) (s := s) (x := D.deeds L L.length) (n := N) (t := D.beg h m s (D.deeds L L.length) dd) h1 m1 s1 (by omega) (by omega)
    obtain ⟨e0, e1, e2, e3⟩ := r.first h1 h2 m1 m2 s1 s2
    have i := r.isRd h1 h2 m1 m2 (by omega)
    have tk := r.tk
    rw [e0, e1, e2, e3] at i tk
    rw [D.tickV, if_pos hv, if_pos i, tk] at K
    exact K)
  have HRX := Lib.hid (fun t w' (u : Up w w') t0 t1 => Reading_rd (h := h) (m := m) (s := s) (d := N) (c := c) (A.up u) t hv t0 t1)
  have HRY := Lib.hid (fun t w' g cap (B : CalArg w' (some ⟨g, 0, none⟩) k cap L.dropLast) t0 t1 => Reading_rd (h := h) (m := m) (s := s) (d := N) B t hv' t0 t1)
  rw [Int.toNat_natCast, hkL] at HTot HRX
  rw [hkL] at HLen HFst
  rw [hlen] at HLen
  rw [Int.toNat_natCast, hY] at HRY
  -- the two ticks' readings
  have HA : ∀ t, 0 ≤ t → t < D.beg h m s (D.deeds L (k + 1)) dd + h * m * s + min V 0 → ∃ R1 R2 R3 R4, (∀ w', Up w w' → Calls Try.prog 22 #[.agg #[.int .i64 h, .int .i64 m, .int .i64 s, .int .i64 N, .slice (some ⟨b, off, none⟩) n c], .int .i64 t] w' fun e w'' => e = .returned (.tuple #[rd R1 R2 R3 R4, .int .i64 0]) ∧ Up w' w'') ∧ ∀ w' g cap, CalArg w' (some ⟨g, 0, none⟩) k cap L.dropLast → Calls Try.prog 22 #[.agg #[.int .i64 h, .int .i64 m, .int .i64 s, .int .i64 N, .slice (some ⟨g, 0, none⟩) k cap], .int .i64 t] w' fun e w'' => e = .returned (.tuple #[rd R1 R2 R3 R4, .int .i64 0]) ∧ Up w' w'' := fun t t0 t1 => by
    obtain ⟨g1, g2, g3, g4⟩ := hr1 t t0 t1 (fun A B C S => A = D.rA h m s (D.deeds L (k + 1)) N t ∧ B = D.rB h m s (D.deeds L (k + 1)) N t ∧ C = D.rC h m s (D.deeds L (k + 1)) N t ∧ S = D.rS h m s (D.deeds L (k + 1)) N t) ⟨rfl, rfl, rfl, rfl⟩
    refine ⟨_, _, _, _, fun w' u => HRX.out t w' u t0 (by omega), fun w' g cap B => ?_⟩
    rw [← g1, ← g2, ← g3, ← g4]
    exact HRY.out t w' g cap B t0 (by omega)
  have HB : ∀ t, D.beg h m s (D.deeds L (k + 1)) (dd + 1) ≤ t → t < D.beg h m s (D.deeds L (k + 1)) N → ∃ R1 R2 R3 R4, (∀ w', Up w w' → Calls Try.prog 22 #[.agg #[.int .i64 h, .int .i64 m, .int .i64 s, .int .i64 N, .slice (some ⟨b, off, none⟩) n c], .int .i64 t] w' fun e w'' => e = .returned (.tuple #[rd R1 R2 R3 R4, .int .i64 0]) ∧ Up w' w'') ∧ ∀ w' g cap, CalArg w' (some ⟨g, 0, none⟩) k cap L.dropLast → Calls Try.prog 22 #[.agg #[.int .i64 h, .int .i64 m, .int .i64 s, .int .i64 N, .slice (some ⟨g, 0, none⟩) k cap], .int .i64 (t - V)] w' fun e w'' => e = .returned (.tuple #[rd R1 R2 R3 R4, .int .i64 0]) ∧ Up w' w'' := fun t t0 t1 => by
    obtain ⟨g1, g2, g3, g4⟩ := hr2 t t0 t1 (fun A B C S => A = D.rA h m s (D.deeds L (k + 1)) N t ∧ B = D.rB h m s (D.deeds L (k + 1)) N t ∧ C = D.rC h m s (D.deeds L (k + 1)) N t ∧ S = D.rS h m s (D.deeds L (k + 1)) N t) ⟨rfl, rfl, rfl, rfl⟩
    refine ⟨_, _, _, _, fun w' u => HRX.out t w' u (by omega) t1, fun w' g cap B => ?_⟩
    rw [← g1, ← g2, ← g3, ← g4]
    exact HRY.out (t - V) w' g cap B (by omega) (by omega)
  clear hr1 hr2 HRX HRY hb
  generalize D.beg h m s (D.deeds L (k + 1)) dd = b0 at *
  generalize D.beg h m s (D.deeds L (k + 1)) N = T at *
  rw [T2] at HB T3
  obtain ⟨LL, hLL⟩ : ∃ LL, L.dropLast = LL := ⟨_, rfl⟩
  have hTk : L.take k = LL := by rw [← hLL, List.dropLast_eq_take, hkL]; rfl
  have hlk : LL.length = k := by rw [← hLL, List.length_dropLast, hkL]; rfl
  rw [hTk] at HNews
  rw [hLL] at HA HB
  -- the first tick
  obtain ⟨sv, hsv⟩ : ∃ sv, b0 + h * m * s + min V 0 = sv := ⟨_, rfl⟩
  have sv1 : 1 ≤ sv ∧ sv ≤ 1000000 := by rw [← hsv]; omega
  rw [hsv] at HA
  have i0 := Int.emod_nonneg n0 (show sv ≠ 0 by omega)
  have i1 := Int.emod_lt_of_pos n0 (show 0 < sv by omega)
  obtain ⟨R1, R2, R3, R4, HX, HY⟩ := HA (n0 % sv) i0 i1
  have HXX := Lib.hid HX
  have HYY := Lib.hid HY
  have HBB := Lib.hid HB
  have HTT := HNews
  obtain ⟨ii, hin, hz0, hz1, hz2⟩ := info_parts Try.infoDecree
  have ek : IntKind.i64.wrap ((n : Int) - 1) = (k : Int) := by rw [IntWalk.i64_in _ (by omega)]; omega
  have hkn : (k : Int) < (n : Int) := by omega
  have hkc : (k : Int) ≤ (c : Int) := by omega
  have w1' : IntKind.i64.wrap (h * m) = h * m := IntWalk.i64_in _ (by omega)
  have w2' : IntKind.i64.wrap (h * m * s) = h * m * s := IntWalk.i64_in _ (by omega)
  have w3' : IntKind.i64.wrap (b0 + h * m * s) = b0 + h * m * s := IntWalk.i64_in _ (by omega)
  have w5' : IntKind.i64.wrap (b0 + (h * m * s + V)) = b0 + (h * m * s + V) := IntWalk.i64_in _ (by omega)
  have lt1 : ¬ (h * m * s + V < 1) := by omega
  have b00 : 0 ≤ b0 ∧ b0 ≤ 1000000 := by omega
  have HLK := Lib.hid hlk
  have HSV := Lib.hid hsv
  have HV := Lib.hid hV
  clear A A0 HX HY HA HB hDec hv hv' hY e4 e3 e2 e1 hpl hTk hLL hcap hl hn0 hlen T1 T2 hlk hsv hV hk hkL hbN
  go_enter Try.func9, Try.ntmps9
  go_wp2_with fail
  obtain ⟨W0, hW0⟩ : ∃ W0, (w.alloc (.cells #[.int .i64 h, .int .i64 m, .int .i64 s, .int .i64 N, .slice (some ⟨b, off, none⟩) n c] 24)).alloc (.cells #[.int .i64 n0, .int .i64 n1] 25) = W0 := ⟨_, rfl⟩
  rw [hW0] at H0 U0
  have c0 : mblk W0 w.heap.size = some (.cells #[.int .i64 h, .int .i64 m, .int .i64 s, .int .i64 N, .slice (some ⟨b, off, none⟩) n c] 24) := by rw [← hW0]; exact blk_keep _ (blk_new _ _ _ rfl)
  have b0' : mblk W0 (w.heap.size + 1) = some (.cells #[.int .i64 n0, .int .i64 n1] 25) := by rw [← hW0]; exact blk_new _ _ _ (by simp)
  rw [hW0]
  clear hW0
  refine H0.out.mono ?_
  rintro e w1 ⟨rfl, u1⟩
  have U1 := U0.trans u1
  have c1 := u1.blk c0
  have b1 := u1.blk b0'
  have f1 := cellB c1
  have day1 := (U1.facts.1 b _ hlt).trans HDay
  have pl1 := (U1.facts.1 b _ hlt).trans HPl
  clear u1 U0 c0 b0' H0
  have l1 := blk_lt c1
  have l2 := blk_lt b1
  have c40 : ∀ o1 o2 o3, (((w1.alloc o1).alloc o2).alloc o3).cell? ⟨w.heap.size, 4, none⟩ = some (.slice (some ⟨b, off, none⟩) n c) := fun o1 o2 o3 => by rw [cellB (blk_keep _ (blk_keep _ (blk_keep _ c1)))]; rfl
  go_wp2_with (at_builtin; refine wpList_append_own _ rfl (.tmp 38) (.tmp 45) 22 rfl (w1.heap.size + 1 + 1) 64 ii (.agg #[.int .i64 0, .bool false]) 2 16 Try.underlying22 hin hz0 hz1 hz2 rfl (by decide) _ 0 [] rfl ⟨rfl, .inr ⟨w1.heap.size + 1 + 1, 0, #[], rfl, Nat.le_refl _, blk_new _ _ _ (by simp), Nat.le_refl _, Nat.zero_le _, rfl, rfl⟩⟩ ⟨b, off, none⟩ k c (D.decCells LL) rfl (by rw [D.decCells_len, HLK.out]) (fun j u hj => by rw [D.add_at]; exact ((((U1.alloc _).alloc _).alloc _).facts.1 b _ hlt).trans (HTT j u hj)) (D.decCells_one LL) (by unfold maxLen; omega) (by omega) (by simp) ?_; intro v' w3 hown3 hgrow3 hne; obtain ⟨g, cap, cur, rfl, hg1, g3, HB3⟩ := D.ownDecs HLK.out (by simpa using hown3) (fun e => (by have q : (Value.slice (some ⟨w1.heap.size + 1 + 1, 0, none⟩) 0 0) = .slice none 0 0 := (hne.1 e).1; cases q)); have gne : ∀ q : Nat, q < w1.heap.size + 1 + 1 → some q ≠ (Value.slice (some ⟨w1.heap.size + 1 + 1, 0, none⟩) 0 0).ownBlock := fun q hq => (by intro hq2; simp [Value.ownBlock] at hq2; omega); have c3 := grown_blk hgrow3 (blk_keep _ (blk_keep _ (blk_keep _ c1))) (gne _ (by omega)); have n3 := grown_blk hgrow3 (blk_keep _ (blk_keep _ (blk_keep _ b1))) (gne _ (by omega)); have d3 := grown_blk hgrow3 (blk_keep _ (blk_keep _ (blk_new w1 (.cells #[.int .i64 dd, .bool pl] 64) _ rfl))) (gne _ (by omega)); have x3 := grown_blk hgrow3 (blk_keep _ (blk_new (w1.alloc (.cells #[.int .i64 dd, .bool pl] 64)) (.cells #[.int .i64 h, .int .i64 m, .int .i64 s, .int .i64 N, .slice (some ⟨b, off, none⟩) n c] 24) (w1.heap.size + 1) (by simp))) (gne _ (by omega)); have U3 := (((U1.alloc _).alloc _).alloc _).grown hgrow3 (fun q hq => (by have hq' : (Value.slice (some ⟨w1.heap.size + 1 + 1, 0, none⟩) 0 0).ownBlock = some q := hq; simp [Value.ownBlock] at hq'; omega)); have z3 := frozB x3)
  have p0 := U1.size
  obtain ⟨p, hp⟩ : ∃ p, w1.heap.size = p := ⟨_, rfl⟩
  rw [hp] at l1 l2 d3 x3 hg1 z3 p0 ⊢
  clear gne hgrow3 hown3 hne c40 c1 b1 f1 day1 pl1 U1 hp
  go_wp2_with fail
  obtain ⟨W4, hW4⟩ : ∃ W4, w3.setCell ⟨p + 1, 4, none⟩ (.slice (some ⟨g, 0, none⟩) k cap) = W4 := ⟨_, rfl⟩
  rw [hW4]
  have c4 : mblk W4 w.heap.size = some (.cells #[.int .i64 h, .int .i64 m, .int .i64 s, .int .i64 N, .slice (some ⟨b, off, none⟩) n c] 24 (0, 0)) := by rw [← hW4, blk_set _ _ _ _ (by show w.heap.size ≠ p + 1; omega)]; exact c3
  have n4 : mblk W4 (w.heap.size + 1) = some (.cells #[.int .i64 n0, .int .i64 n1] 25 (0, 0)) := by rw [← hW4, blk_set _ _ _ _ (by show w.heap.size + 1 ≠ p + 1; omega)]; exact n3
  have d4 : mblk W4 p = some (.cells #[.int .i64 dd, .bool pl] 64 (0, 0)) := by rw [← hW4, blk_set _ _ _ _ (by show p ≠ p + 1; omega)]; exact d3
  have x4 : mblk W4 (p + 1) = some (.cells #[.int .i64 h, .int .i64 m, .int .i64 s, .int .i64 N, .slice (some ⟨g, 0, none⟩) k cap] 24 (0, 0)) := by rw [← hW4]; exact blk_put x3 4 _
  have g4 : mblk W4 g = some (.cells cur 64 (0, 0)) := by rw [← hW4, blk_set _ _ _ _ (by show g ≠ p + 1; omega)]; exact g3
  have U4 : Up w W4 := by rw [← hW4]; exact U3.set (by show w.heap.size ≤ p + 1; omega) _
  have sp := blk_lt x4
  clear hW4 c3 n3 d3 x3 g3 U3 z3
  refine wp_region_held_drew (S := fun w' => Up w w' ∧ mblk w' w.heap.size = some (.cells #[.int .i64 h, .int .i64 m, .int .i64 s, .int .i64 N, .slice (some ⟨b, off, none⟩) n c] 24 (0, 0)) ∧ mblk w' (w.heap.size + 1) = some (.cells #[.int .i64 n0, .int .i64 n1] 25 (0, 0)) ∧ mblk w' p = some (.cells #[.int .i64 dd, .bool pl] 64 (0, 0)) ∧ mblk w' (p + 1) = some (.cells #[.int .i64 h, .int .i64 m, .int .i64 s, .int .i64 N, .slice (some ⟨g, 0, none⟩) k cap] 24 (0, 0)) ∧ mblk w' g = some (.cells cur 64 (0, 0))) (by kernel_rfl) ⟨U4.drew, by rw [blk_drew]; exact c4, by rw [blk_drew]; exact n4, by rw [blk_drew]; exact d4, by rw [blk_drew]; exact x4, by rw [blk_drew]; exact g4⟩ (fun hHeld => ?_)
  clear U4 c4 n4 d4 x4 g4 sp
  refine takeH (i := 0) (d := (some 49)) (v := ?v1) rfl rfl (by kernel_rfl) (by kernel_rfl) (by kernel_rfl) (fun _ _ _ h => h) (by rfl) ?hy1 (by assumption) ?_
  case hy1 => ((intro w hSw; (try dsimp only at hSw); (try go_split_ands); go_simp); try with_reducible rfl)
  simp only [Act.put, List.setIfInBounds_toArray, List.set_cons_zero, List.set_cons_succ]
  refine takeH (i := 1) (d := (some 50)) (v := ?v2) rfl rfl (by kernel_rfl) (by kernel_rfl) (by kernel_rfl) (fun _ _ _ h => h) (by rfl) ?hy2 (by assumption) ?_
  case hy2 => ((intro w hSw; (try dsimp only at hSw); (try go_split_ands); go_simp); try with_reducible rfl)
  simp only [Act.put, List.setIfInBounds_toArray, List.set_cons_zero, List.set_cons_succ]
  refine takeH (i := 2) (d := (some 51)) (v := ?v3) rfl rfl (by kernel_rfl) (by kernel_rfl) (by kernel_rfl) (fun _ _ _ h => h) (by rfl) ?hy3 (by assumption) ?_
  case hy3 => ((intro w hSw; (try dsimp only at hSw); (try go_split_ands); go_simp); try with_reducible rfl)
  simp only [Act.put, List.setIfInBounds_toArray, List.set_cons_zero, List.set_cons_succ]
  refine wpAnyH_ready (rs := [3]) (by kernel_rfl) (by simp) ?_
  refine AllReadyH.cons rfl (fun K hK => ?_) AllReadyH.nil
  go_simp
  refine (l_at_any _ _ _ _ _).mono ?_
  rintro e w5 ⟨rfl, u5⟩
  go_wp2_with fail
  refine hK.out _ _ ⟨hHeld.1.trans u5, u5.blk hHeld.2.1, u5.blk hHeld.2.2.1, u5.blk hHeld.2.2.2.1, u5.blk hHeld.2.2.2.2.1, u5.blk hHeld.2.2.2.2.2⟩ (fun hHeld => ?_)
  clear hK K u5
  refine wpAnyH_ready (rs := [4]) (by kernel_rfl) (by simp) ?_
  refine AllReadyH.cons rfl (fun K hK => ?_) AllReadyH.nil
  go_simp
  refine (HFst.out _ hHeld.1).mono ?_
  rintro e w6 ⟨rfl, u6⟩
  go_wp2_with fail
  refine hK.out _ _ ⟨hHeld.1.trans u6, u6.blk hHeld.2.1, u6.blk hHeld.2.2.1, u6.blk hHeld.2.2.2.1, u6.blk hHeld.2.2.2.2.1, u6.blk hHeld.2.2.2.2.2⟩ (fun hHeld => ?_)
  clear hK K u6
  refine takeH (i := 5) (d := (some 48)) (v := ?v6) rfl rfl (by kernel_rfl) (by kernel_rfl) (by kernel_rfl) (fun _ _ _ h => h) (by rfl) ?hy6 (by assumption) ?_
  case hy6 => ((intro w hSw; (try dsimp only at hSw); (try go_split_ands); go_simp); try with_reducible rfl)
  simp only [Act.put, List.setIfInBounds_toArray, List.set_cons_zero, List.set_cons_succ]
  refine takeH (i := 6) (d := (some 54)) (v := ?v7) rfl rfl (by kernel_rfl) (by kernel_rfl) (by kernel_rfl) (fun _ _ _ h => h) (by rfl) ?hy7 (by assumption) ?_
  case hy7 => ((intro w hSw; (try dsimp only at hSw); (try go_split_ands); go_simp); try with_reducible rfl)
  simp only [Act.put, List.setIfInBounds_toArray, List.set_cons_zero, List.set_cons_succ]
  refine takeH (i := 7) (d := (some 55)) (v := ?v8) rfl rfl (by kernel_rfl) (by kernel_rfl) (by kernel_rfl) (fun _ _ _ h => h) (by rfl) ?hy8 (by assumption) ?_
  case hy8 => ((intro w hSw; (try dsimp only at hSw); (try go_split_ands); go_simp); try with_reducible rfl)
  simp only [Act.put, List.setIfInBounds_toArray, List.set_cons_zero, List.set_cons_succ]
  refine takeH (i := 8) (d := (some 7)) (v := ?v9) rfl rfl (by kernel_rfl) (by kernel_rfl) (by kernel_rfl) (fun _ _ _ h => h) (by rfl) ?hy9 (by assumption) ?_
  case hy9 => ((intro w hSw; (try dsimp only at hSw); (try go_split_ands); go_simp); try with_reducible rfl)
  simp only [Act.put, List.setIfInBounds_toArray, List.set_cons_zero, List.set_cons_succ]
  refine takeH (i := 9) (d := (some 8)) (v := ?v10) rfl rfl (by kernel_rfl) (by kernel_rfl) (by kernel_rfl) (fun _ _ _ h => h) (by rfl) ?hy10 (by assumption) ?_
  case hy10 => ((intro w hSw; (try dsimp only at hSw); (try go_split_ands); go_simp); try with_reducible rfl)
  simp only [Act.put, List.setIfInBounds_toArray, List.set_cons_zero, List.set_cons_succ]
  refine wpAnyH_done (by kernel_rfl) ?_ _
  obtain ⟨U7, c7, n7, d7, x7, g7⟩ := hHeld
  have fc7 := cellB c7
  have fd7 := cellB d7
  clear HFst
  go_wp2_with fail
  refine (HLen.out _ U7).mono ?_
  rintro e w8 ⟨rfl, u8⟩
  have U8 := U7.trans u8
  have c8 := u8.blk c7
  have n8 := u8.blk n7
  have d8 := u8.blk d7
  have x8 := u8.blk x7
  have g8 := u8.blk g7
  clear u8 U7 c7 n7 d7 x7 g7
  clear HLen fc7 fd7
  have fc8 := cellB c8
  go_wp2_with fail
  refine (HTot.out _ U8).mono ?_
  rintro e w9 ⟨rfl, u9⟩
  have U9 := U8.trans u9
  have c9 := u9.blk c8
  have n9 := u9.blk n8
  have d9 := u9.blk d8
  have x9 := u9.blk x8
  have g9 := u9.blk g8
  clear u9 U8 c8 n8 d8 x8 g8
  clear HTot fc8
  have fc9 := cellB c9
  have fd9 := cellB d9
  have fn9 := cellB n9
  have hM : ∀ (ts : Array TypeId) (t' : TypeId) (w : World), (Builtin.max_ ts t' #[.int .i64 1, .int .i64 sv]).run Try.prog w = .ok (.int .i64 sv) w := fun ts t' w => by
    have e : (if sv > 1 then sv else 1) = sv := by split <;> omega
    rw [run_max_int2, e]
  have HMX := Lib.hid hM
  obtain ⟨i, hi⟩ : ∃ i, n0 % sv = i := ⟨_, rfl⟩
  rw [hi] at HXX HYY i0 i1
  obtain ⟨ln, hln⟩ : ∃ ln, h * m * s + V = ln := ⟨_, rfl⟩
  rw [hln] at HBB w5' lt1 T3 ⊢
  have l0 : 1 ≤ ln ∧ ln ≤ 90000 := by rw [← hln]; omega
  cases pl
  case' false =>
    have hV1 : V = -1 := by have := HV.out; simpa using this
    have e13 : IntKind.i64.wrap (b0 + h * m * s) = b0 + h * m * s := w3'
    have e14 : IntKind.i64.wrap (b0 + h * m * s - 1) = sv := by rw [IntWalk.i64_in _ (by omega)]; have := HSV.out; omega
  case' true =>
    have hV1 : V = 1 := by have := HV.out; simpa using this
    have e13 : IntKind.i64.wrap (b0 + h * m * s) = sv := by rw [w3']; have := HSV.out; omega
    have e14 : True := trivial
  all_goals
    clear w3' hln
    go_wp2_with fail
    refine (l_Rest_any _ _ _ (by omega) (by omega)).mono ?_
    rintro e w10 ⟨rfl, rfl⟩
    rw [hi]
    clear hM
    go_wp2_with fail
    refine (HXX.out _ U9).mono ?_
    rintro e w10 ⟨rfl, u10⟩
    have U10 := U9.trans u10
    have c10 := u10.blk c9
    have n10 := u10.blk n9
    have d10 := u10.blk d9
    have x10 := u10.blk x9
    have g10 := u10.blk g9
    clear u10 U9 c9 n9 d9 x9 g9
    clear HXX fc9 fd9 fn9
    have fx10 := cellB x10
    have sx10 := blk_lt x10
    have sg10 := blk_lt g10
    go_wp2_with fail
    obtain ⟨W11, hW11⟩ : ∃ W11, w10.alloc (.cells #[.int .i64 R1, .int .i64 R2, .int .i64 R3, .int .i64 R4] 27) = W11 := ⟨_, rfl⟩
    have r11 : mblk W11 w10.heap.size = some (.cells #[.int .i64 R1, .int .i64 R2, .int .i64 R3, .int .i64 R4] 27 (0, 0)) := by rw [← hW11]; exact blk_new _ _ _ rfl
    have c11 : mblk W11 w.heap.size = some (.cells #[.int .i64 h, .int .i64 m, .int .i64 s, .int .i64 N, .slice (some ⟨b, off, none⟩) n c] 24 (0, 0)) := by rw [← hW11]; exact blk_keep _ c10
    have n11 : mblk W11 (w.heap.size + 1) = some (.cells #[.int .i64 n0, .int .i64 n1] 25 (0, 0)) := by rw [← hW11]; exact blk_keep _ n10
    have x11 : mblk W11 (p + 1) = some (.cells #[.int .i64 h, .int .i64 m, .int .i64 s, .int .i64 N, .slice (some ⟨g, 0, none⟩) k cap] 24 (0, 0)) := by rw [← hW11]; exact blk_keep _ x10
    have g11 : mblk W11 g = some (.cells cur 64 (0, 0)) := by rw [← hW11]; exact blk_keep _ g10
    have U11 : Up w W11 := by rw [← hW11]; exact U10.alloc _
    have q10 := U10.size
    obtain ⟨r, hr⟩ : ∃ r, w10.heap.size = r := ⟨_, rfl⟩
    rw [hr] at r11 sx10 sg10 q10 ⊢
    rw [hW11]
    clear hW11 hr fx10 c10 n10 d10 x10 g10 U10
    refine (HYY.out _ g cap (HB3 _ g11)).mono ?_
    rintro e w12 ⟨rfl, u12⟩
    have U12 := U11.trans u12
    have c12 := u12.blk c11
    have n12 := u12.blk n11
    have x12 := u12.blk x11
    have g12 := u12.blk g11
    have r12 := u12.blk r11
    clear u12 U11 c11 n11 x11 g11 r11
    have sr12 := blk_lt r12
    have fr12 := cellB r12
    have sn12 := blk_lt n12
    have fn12 := cellB n12
    have fc12 := cellB c12
    by_cases hge : T ≤ b0 + ln
    · go_wp2_with fail
      refine (l_works_any _).mono ?_
      rintro e w13 ⟨rfl, u13⟩
      go_wp2
      go_ret
      exact ⟨rfl, (U12.alloc _).trans u13⟩
    have v1 : IntKind.i64.wrap (T - b0) = T - b0 := IntWalk.i64_in _ (by omega)
    have v2 : IntKind.i64.wrap (T - b0 - ln) = T - b0 - ln := IntWalk.i64_in _ (by omega)
    have q0 := Int.emod_nonneg n1 (show T - b0 - ln ≠ 0 by omega)
    have q1 := Int.emod_lt_of_pos n1 (show 0 < T - b0 - ln by omega)
    obtain ⟨q, hq⟩ : ∃ q, n1 % (T - b0 - ln) = q := ⟨_, rfl⟩
    rw [hq] at q0 q1
    have v3 : IntKind.i64.wrap (b0 + ln + q) = b0 + ln + q := IntWalk.i64_in _ (by omega)
    obtain ⟨S1, S2, S3, S4, HX2, HY2⟩ := HBB.out (b0 + ln + q) (by omega) (by omega)
    obtain ⟨km, hkm⟩ : ∃ km, b0 + ln + q - V = km := ⟨_, rfl⟩
    rw [hkm] at HY2
    have k1' : IntKind.i64.wrap (b0 + ln + q - V) = km := by rw [IntWalk.i64_in _ (by omega)]; exact hkm
    have k2' : V = -1 → IntKind.i64.wrap (b0 + ln + q + 1) = km := fun e => by rw [← k1', e]; congr 1
    rw [hV1] at k1'
    have k3' := fun e => k2' e
    simp only [hV1] at k3'
    have HX3 := Lib.hid HX2
    have HY3 := Lib.hid HY2
    clear HX2 HY2 k2' hkm HBB HYY
    go_wp2_with fail
    obtain ⟨W13, hW13⟩ : ∃ W13, w12.alloc (.cells #[.int .i64 R1, .int .i64 R2, .int .i64 R3, .int .i64 R4] 27) = W13 := ⟨_, rfl⟩
    have t13 : mblk W13 w12.heap.size = some (.cells #[.int .i64 R1, .int .i64 R2, .int .i64 R3, .int .i64 R4] 27 (0, 0)) := by rw [← hW13]; exact blk_new _ _ _ rfl
    have c13 : mblk W13 w.heap.size = some (.cells #[.int .i64 h, .int .i64 m, .int .i64 s, .int .i64 N, .slice (some ⟨b, off, none⟩) n c] 24 (0, 0)) := by rw [← hW13]; exact blk_keep _ c12
    have x13 : mblk W13 (p + 1) = some (.cells #[.int .i64 h, .int .i64 m, .int .i64 s, .int .i64 N, .slice (some ⟨g, 0, none⟩) k cap] 24 (0, 0)) := by rw [← hW13]; exact blk_keep _ x12
    have g13 : mblk W13 g = some (.cells cur 64 (0, 0)) := by rw [← hW13]; exact blk_keep _ g12
    have r13 : mblk W13 r = some (.cells #[.int .i64 R1, .int .i64 R2, .int .i64 R3, .int .i64 R4] 27 (0, 0)) := by rw [← hW13]; exact blk_keep _ r12
    have U13 : Up w W13 := by rw [← hW13]; exact U12.alloc _
    have q12 := U12.size
    have sg12 := blk_lt g12
    have sx12 := blk_lt x12
    obtain ⟨t, ht⟩ : ∃ t, w12.heap.size = t := ⟨_, rfl⟩
    rw [ht] at t13 sr12 sn12 q12 sg12 sx12 ⊢
    rw [hW13]
    clear hW13 ht c12 n12 x12 g12 r12 U12 fr12 fn12 fc12
    refine (l_Rest_any _ _ _ (by omega) (by omega)).mono ?_
    rintro e w14 ⟨rfl, rfl⟩
    rw [hq]
    have fc13 := cellB c13
    go_wp2_with fail
    refine (HX3.out _ U13).mono ?_
    rintro e w14 ⟨rfl, u14⟩
    have U14 := U13.trans u14
    have c14 := u14.blk c13
    have x14 := u14.blk x13
    have g14 := u14.blk g13
    have r14 := u14.blk r13
    have t14 := u14.blk t13
    clear u14 U13 c13 x13 g13 r13 t13 fc13
    have fr14 := cellB r14
    have zr14 := frozB r14
    have hx14 : ∀ v0 v1 v2 v3, mblk ((((w14.setCell ⟨r, 0, none⟩ v0).setCell ⟨r, 1, none⟩ v1).setCell ⟨r, 2, none⟩ v2).setCell ⟨r, 3, none⟩ v3) (p + 1) = some (.cells #[.int .i64 h, .int .i64 m, .int .i64 s, .int .i64 N, .slice (some ⟨g, 0, none⟩) k cap] 24 (0, 0)) := fun v0 v1 v2 v3 => by rw [set4_other _ (by omega)]; exact x14
    have fx14 := cellB x14
    have ne1 : t ≠ r := by omega
    have ne2 : g ≠ r := by omega
    have pr : w.heap.size ≤ r := by omega
    have pt : w.heap.size ≤ t := by omega
    go_wp2_with fail
    obtain ⟨W15, hW15⟩ : ∃ W15, ((((w14.setCell ⟨r, 0, none⟩ (.int .i64 S1)).setCell ⟨r, 1, none⟩ (.int .i64 S2)).setCell ⟨r, 2, none⟩ (.int .i64 S3)).setCell ⟨r, 3, none⟩ (.int .i64 S4)) = W15 := ⟨_, rfl⟩
    have r15 : mblk W15 r = some (.cells #[.int .i64 S1, .int .i64 S2, .int .i64 S3, .int .i64 S4] 27 (0, 0)) := by rw [← hW15]; exact set4_same r14 _ _ _ _
    have t15 : mblk W15 t = some (.cells #[.int .i64 R1, .int .i64 R2, .int .i64 R3, .int .i64 R4] 27 (0, 0)) := by rw [← hW15, set4_other _ ne1]; exact t14
    have g15 : mblk W15 g = some (.cells cur 64 (0, 0)) := by rw [← hW15, set4_other _ ne2]; exact g14
    have U15 : Up w W15 := by rw [← hW15]; exact U14.set4 pr _ _ _ _
    rw [hW15]
    clear hW15 hx14 fr14 zr14 fx14 c14 x14 g14 r14 t14 U14
    refine (HY3.out _ g cap (HB3 _ g15)).mono ?_
    rintro e w16 ⟨rfl, u16⟩
    have U16 := U15.trans u16
    have r16 := u16.blk r15
    have t16 := u16.blk t15
    clear u16 U15 r15 t15 g15
    have ft16 := cellB t16
    have zt16 := frozB t16
    have fr16 : ∀ v0 v1 v2 v3 j, ((((w16.setCell ⟨t, 0, none⟩ v0).setCell ⟨t, 1, none⟩ v1).setCell ⟨t, 2, none⟩ v2).setCell ⟨t, 3, none⟩ v3).cell? ⟨r, j, none⟩ = (#[.int .i64 S1, .int .i64 S2, .int .i64 S3, .int .i64 S4] : Array Value)[j]? := fun v0 v1 v2 v3 j => cellB (by rw [set4_other _ (Ne.symm ne1)]; exact r16) j
    have ft17 : ∀ j, ((((w16.setCell ⟨t, 0, none⟩ (.int .i64 S1)).setCell ⟨t, 1, none⟩ (.int .i64 S2)).setCell ⟨t, 2, none⟩ (.int .i64 S3)).setCell ⟨t, 3, none⟩ (.int .i64 S4)).cell? ⟨t, j, none⟩ = (#[.int .i64 S1, .int .i64 S2, .int .i64 S3, .int .i64 S4] : Array Value)[j]? := fun j => cellB (set4_same t16 _ _ _ _) j
    go_wp2_with fail
    refine (l_works_any _).mono ?_
    rintro e w17 ⟨rfl, u17⟩
    go_wp2
    go_ret
    exact ⟨rfl, (U16.set4 pt _ _ _ _).trans u17⟩


end Go.Proofs.Ytfmnfingliflkaa
