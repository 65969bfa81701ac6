import Derived.Test.YtlpkheoljbdajaaMth
/- The contracts of Offset, Between, Person, Path, Worst, Check. -/
namespace Go.Proofs.Ytlpkheoljbdajaa
open Go.RowKit Go.Shelf
attribute [local go_sem] Oper.semAt_some

theorem ints1 {w : World} {b : Nat} {x : Int} (h : mblk w b = some (.cells #[.int .i64 x] 3 (0, 0))) : Ints w (.slice (some ⟨b, 0, none⟩) 1 1) [x] := Ints.new (cap := 1) (xs := [x]) h (by simp) (by simp) (fun j hj => by
  match j, hj with
  | 0, _ => rfl)
theorem ints2 {w : World} {b : Nat} {x y : Int} (h : mblk w b = some (.cells #[.int .i64 x, .int .i64 y] 3 (0, 0))) : Ints w (.slice (some ⟨b, 0, none⟩) 2 2) [x, y] := Ints.new (cap := 2) (xs := [x, y]) h (by simp) (by simp) (fun j hj => by
  match j, hj with
  | 0, _ => rfl
  | 1, _ => rfl)
section
variable {N : Nat} {bl bh rl rh : Int} {aP aQ aL aT aC : Option Addr} {nP cP nQ cQ nL cL nT cT nC cC : Nat} {ps qs : List (Int × Int)} {ls : List T.T5} {cl : List Int} {k : Int}
theorem between_is {w0 w : World} {o : Nat → Bool} {M : Int} {ts : List T.T4} {A : Int → Prop} {m i : Int} (I : Tis w0 (.slice aT nT cT) ts) (hu : Up w0 w) (W : T.Wok ts A) (hm : A m) (hi : A i) {l h e0 : Int} (q : T.Asked ts m i l h e0) :
    Calls Try.prog 64 #[WeV M bl bh rl rh (.slice aP nP cP) (.slice aQ nQ cQ) (.slice aL nL cL) o (.slice aT nT cT), .int .i64 m, .int .i64 i] w fun e w' => e = .returned (.tuple #[SpV l h, .int .i64 e0]) ∧ Up w w' :=
  (between_any I hu W hm hi).mono fun e w' ⟨⟨l1, h1, e1, he, ha⟩, u⟩ => by
    obtain ⟨rfl, rfl, rfl⟩ := ha.uniq q
    exact ⟨he, u⟩
theorem thing_0 (n : Int) (h : -1000000 ≤ n ∧ n ≤ 1000000) (w : World) : Calls Try.prog 65 #[.int .i64 0, .int .i64 n] w fun e w' => e = .returned (.int .i64 (9 + n)) ∧ Up w w' := thingOf_any (k := 0) (by omega) n h.1 h.2 w
theorem thing_1 (n : Int) (h : -1000000 ≤ n ∧ n ≤ 1000000) (w : World) : Calls Try.prog 65 #[.int .i64 1, .int .i64 n] w fun e w' => e = .returned (.int .i64 (13 + n)) ∧ Up w w' := thingOf_any (k := 1) (by omega) n h.1 h.2 w
theorem thing_2 (n : Int) (h : -1000000 ≤ n ∧ n ≤ 1000000) (w : World) : Calls Try.prog 65 #[.int .i64 2, .int .i64 n] w fun e w' => e = .returned (.int .i64 (1 + n)) ∧ Up w w' := thingOf_any (k := 2) (by omega) n h.1 h.2 w
/-- the error of a question -/
def T.qErr (M bl bh rl rh : Int) (ps qs : List (Int × Int)) (ls : List T.T5) (k : Int) (cl : List Int) : Int :=
  if T.valid M bl bh rl rh ps qs ls then (if T.askd ps.length qs.length M k cl then 0 else 31) else 30
theorem newQuestion_bad {w : World} {M : Int} (I : Sps w (.slice aP nP cP) ps) (J : Sps w (.slice aQ nQ cQ) qs) (K : Lks w (.slice aL nL cL) ls) (C : Ints w (.slice aC nC cC) cl) (hk : k = 0 ∨ k = 1 ∨ k = 2) {eq : Int} (hq : T.qErr M bl bh rl rh ps qs ls k cl = eq) (h0 : eq ≠ 0) :
    Calls Try.prog 63 #[BoV M bl bh rl rh (.slice aP nP cP) (.slice aQ nQ cQ) (.slice aL nL cL), .int .i64 k, .slice aC nC cC] w fun e w' => e = .returned (.tuple #[WeZ, .int .i64 eq]) ∧ Up w w' := by
  unfold T.qErr at hq
  cases h : T.valid M bl bh rl rh ps qs ls with
  | false =>
    rw [h, if_neg (by simp)] at hq
    subst hq
    exact newQuestion_no I J K h
  | true =>
    rw [h, if_pos rfl] at hq
    have h1 : 1 ≤ M := by
      have q := h
      unfold T.valid at q
      rw [Bool.and_eq_true] at q
      exact (T.nights_N q.1).1
    obtain ⟨N, rfl⟩ := Int.eq_ofNat_of_zero_le (show 0 ≤ M by omega)
    have hn := I.len
    have hm := J.len
    refine (newQuestion_in I J K C hk h).mono fun e w' ⟨a, u⟩ => ⟨?_, u⟩
    rw [hn, hm] at a
    rcases a with ⟨b, rfl⟩ | ⟨b, _⟩
    · rw [b, if_neg (by simp)] at hq
      subst hq
      rfl
    · rw [b, if_pos rfl] at hq
      exact absurd hq.symm h0
theorem newQuestion_yes {w : World} (I : Sps w (.slice aP nP cP) ps) (J : Sps w (.slice aQ nQ cQ) qs) (K : Lks w (.slice aL nL cL) ls) (C : Ints w (.slice aC nC cC) cl) (hk : k = 0 ∨ k = 1 ∨ k = 2) (hv : T.valid N bl bh rl rh ps qs ls = true) (ha : T.askd ps.length qs.length N k cl = true) :
    Calls Try.prog 63 #[BoV (N : Int) bl bh rl rh (.slice aP nP cP) (.slice aQ nQ cQ) (.slice aL nL cL), .int .i64 k, .slice aC nC cC] w fun e w' => (∃ aT nT cT, e = .returned (.tuple #[WeV (N : Int) bl bh rl rh (.slice aP nP cP) (.slice aQ nQ cQ) (.slice aL nL cL) T.o0 (.slice aT nT cT), .int .i64 0]) ∧ Tis w' (.slice aT nT cT) (T.web N bl bh rl rh ps qs ls T.o0)) ∧ Up w w' := by
  have hn := I.len
  have hm := J.len
  refine (newQuestion_in I J K C hk hv).mono fun e w' ⟨a, u⟩ => ⟨?_, u⟩
  rcases a with ⟨b, _⟩ | ⟨_, b⟩
  · rw [hn, hm, ha] at b; cases b
  · exact b
theorem T.qErr_ok (h : T.qErr N bl bh rl rh ps qs ls k cl = 0) : T.valid N bl bh rl rh ps qs ls = true ∧ T.askd ps.length qs.length N k cl = true := by
  unfold T.qErr at h
  split at h
  · rename_i a
    split at h
    · rename_i b; exact ⟨a, b⟩
    · cases h
  · cases h
theorem T.valid_who (h : T.valid N bl bh rl rh ps qs ls = true) : ∀ x ∈ ls, x.2.2.1 < T.many ps.length qs.length N x.2.1 := fun x hx => by
  unfold T.valid at h
  simp only [Bool.and_eq_true, decide_eq_true_eq, List.all_eq_true] at h
  have q := h.2.2.2 x hx
  unfold T.lookOk at q
  simp only [Bool.and_eq_true, inB_iff] at q
  omega
theorem T.valid_web (h : T.valid N bl bh rl rh ps qs ls = true) (o : Nat → Bool) : T.Wok (T.web N bl bh rl rh ps qs ls o) (T.Alive N ps.length qs.length) := T.web_ok (T.valid_bok h) (T.valid_who h) o
set_option maxRecDepth 100000 in
set_option maxHeartbeats 1000000 in
theorem Offset_bad {w : World} {M n : Int} (I : Sps w (.slice aP nP cP) ps) (J : Sps w (.slice aQ nQ cQ) qs) (K : Lks w (.slice aL nL cL) ls) {eq : Int} (hq : T.qErr M bl bh rl rh ps qs ls 2 [n] = eq) (h0 : eq ≠ 0) :
    Calls Try.prog 24 #[BoV M bl bh rl rh (.slice aP nP cP) (.slice aQ nQ cQ) (.slice aL nL cL), .int .i64 n] w fun e w' => e = .returned (.tuple #[SpV 0 0, .int .i64 eq]) ∧ Up w w' := by
  have HN := Lib.hid (fun w' (u : Up w w') (ac : Option Addr) (nc cc : Nat) (C : Ints w' (.slice ac nc cc) [n]) => newQuestion_bad (I.up u) (J.up u) (K.up u) C (by omega) hq h0)
  have hb : (eq != 0) = true := by rw [bne_iff_ne]; exact h0
  clear I J K hq
  go_enter Try.func24, Try.ntmps24
  go_wp2_with fail
  obtain ⟨W0, hW0⟩ : ∃ x, ((w.alloc (.cells (BoC M bl bh rl rh (.slice aP nP cP) (.slice aQ nQ cQ) (.slice aL nL cL)) 27)).alloc (.cells #[.int .i64 0, .int .i64 0] 23)).alloc (.cells #[.int .i64 n] 3) = x := ⟨_, rfl⟩
  obtain ⟨q0, e0⟩ : ∃ x, w.heap.size = x := ⟨_, rfl⟩
  obtain ⟨q1, e1⟩ : ∃ x, q0 + 1 = x := ⟨_, rfl⟩
  obtain ⟨q2, e2⟩ : ∃ x, q1 + 1 = x := ⟨_, rfl⟩
  have U0 : Up w W0 := by rw [← hW0]; exact (((Up.refl w).alloc _).alloc _).alloc _
  have kR : mblk W0 q1 = some (.cells #[.int .i64 0, .int .i64 0] 23 (0, 0)) := by rw [← hW0]; exact blk_keep _ (blk_new _ _ _ (by simp; omega))
  have kC : mblk W0 q2 = some (.cells #[.int .i64 n] 3 (0, 0)) := by rw [← hW0]; exact blk_new _ _ _ (by simp; omega)
  rw [hW0, e0, e1, e2]
  clear hW0
  refine (HN.out W0 U0 _ _ _ (ints1 kC)).mono ?_
  rintro e W1 ⟨rfl, u1⟩
  replace kR := u1.blk kR
  have lR := blk_lt kR
  have UW := U0.trans u1
  clear HN U0 kC u1
  have kR2 := blk_keep (.cells #[.int .i64 0, .int .i64 0, .int .i64 0, .int .i64 0, .int .i64 0, .slice none 0 0, .slice none 0 0, .slice none 0 0, .bool false, .bool false, .bool false, .bool false, .bool false, .bool false, .bool false, .bool false, .bool false, .bool false, .slice none 0 0] 90) kR
  have fR := frozB kR
  have fR2 := frozB kR2
  have cR := cellB kR
  have cR2 := cellB kR2
  have hst : (webStore (.pointer (some ⟨W1.heap.size, 0, none⟩)) WeZ).run Try.prog (W1.alloc (.cells #[.int .i64 0, .int .i64 0, .int .i64 0, .int .i64 0, .int .i64 0, .slice none 0 0, .slice none 0 0, .slice none 0 0, .bool false, .bool false, .bool false, .bool false, .bool false, .bool false, .bool false, .bool false, .bool false, .bool false, .slice none 0 0] 90)) = .ok () (W1.alloc (.cells #[.int .i64 0, .int .i64 0, .int .i64 0, .int .i64 0, .int .i64 0, .slice none 0 0, .slice none 0 0, .slice none 0 0, .bool false, .bool false, .bool false, .bool false, .bool false, .bool false, .bool false, .bool false, .bool false, .bool false, .slice none 0 0] 90)) := by
    have q := run_webStore_row (W1.alloc (.cells #[.int .i64 0, .int .i64 0, .int .i64 0, .int .i64 0, .int .i64 0, .slice none 0 0, .slice none 0 0, .slice none 0 0, .bool false, .bool false, .bool false, .bool false, .bool false, .bool false, .bool false, .bool false, .bool false, .bool false, .slice none 0 0] 90)) W1.heap.size #[.int .i64 0, .int .i64 0, .int .i64 0, .int .i64 0, .int .i64 0, .slice none 0 0, .slice none 0 0, .slice none 0 0, .bool false, .bool false, .bool false, .bool false, .bool false, .bool false, .bool false, .bool false, .bool false, .bool false, .slice none 0 0] #[.int .i64 0, .int .i64 0, .int .i64 0, .int .i64 0, .int .i64 0, .slice none 0 0, .slice none 0 0, .slice none 0 0, .bool false, .bool false, .bool false, .bool false, .bool false, .bool false, .bool false, .bool false, .bool false, .bool false, .slice none 0 0] (blk_new _ _ _ rfl) rfl ⟨rfl, by simp [Value.oneCell']⟩
    rw [setRow_new _ _ _ _ _ rfl] at q
    exact q
  go_wp2_with fail
  obtain ⟨Z, hZ⟩ : ∃ z, ((W1.setCell ⟨q1, 0, none⟩ (.int .i64 0)).setCell ⟨q1, 1, none⟩ (.int .i64 0)).alloc (.cells #[.int .i64 0, .int .i64 0, .int .i64 0, .int .i64 0, .int .i64 0, .slice none 0 0, .slice none 0 0, .slice none 0 0, .bool false, .bool false, .bool false, .bool false, .bool false, .bool false, .bool false, .bool false, .bool false, .bool false, .slice none 0 0] 90) = z := ⟨_, rfl⟩
  have UZ : Up w Z := by rw [← hZ]; exact ((UW.set (p := ⟨q1, 0, none⟩) (by show w.heap.size ≤ q1; omega) _).set (p := ⟨q1, 1, none⟩) (by show w.heap.size ≤ q1; omega) _).alloc _
  have cZ : ∀ j, Z.cell? ⟨q1, j, none⟩ = (#[Value.int .i64 0, .int .i64 0] : Array Value)[j]? := by rw [← hZ]; exact cellB (blk_keep _ (blk_put (blk_put kR 0 _) 1 _))
  rw [hZ]
  exact bodyPost_ret (v := .tuple #[SpV 0 0, .int .i64 eq]) (by simp [results, Try.results24, go_sem, cZ]) rfl ⟨rfl, UZ⟩
set_option maxRecDepth 100000 in
set_option maxHeartbeats 1000000 in
theorem Offset_ok {w : World} {n : Int} (I : Sps w (.slice aP nP cP) ps) (J : Sps w (.slice aQ nQ cQ) qs) (K : Lks w (.slice aL nL cL) ls) (hq : T.qErr N bl bh rl rh ps qs ls 2 [n] = 0) {lo hi eE : Int} (q : T.Asked (T.web N bl bh rl rh ps qs ls T.o0) 0 (1 + n) lo hi eE) :
    Calls Try.prog 24 #[BoV (N : Int) bl bh rl rh (.slice aP nP cP) (.slice aQ nQ cQ) (.slice aL nL cL), .int .i64 n] w fun e w' => e = .returned (.tuple #[SpV lo hi, .int .i64 eE]) ∧ Up w w' := by
  obtain ⟨hv, ha⟩ := T.qErr_ok hq
  have G := T.valid_bok hv
  have HN := Lib.hid (fun w' (u : Up w w') (ac : Option Addr) (nc cc : Nat) (C : Ints w' (.slice ac nc cc) [n]) => newQuestion_yes (I.up u) (J.up u) (K.up u) C (by omega) hv ha)
  simp only [T.askd, T.many, List.all_cons, List.all_nil, Bool.and_true, inB_iff] at ha
  have n8 := G.n8
  have p4 := G.p4
  have q4 := G.q4
  have HA := Lib.hid (fun aT nT cT w0 w' (IT : Tis w0 (.slice aT nT cT) _) (u : Up w0 w') => between_is (bl := bl) (bh := bh) (rl := rl) (rh := rh) (aP := aP) (nP := nP) (cP := cP) (aQ := aQ) (nQ := nQ) (cQ := cQ) (aL := aL) (nL := nL) (cL := cL) (o := T.o0) (M := (N : Int)) IT u (T.valid_web hv T.o0) (m := 0) (i := (1 + n)) (.inl rfl) (.inr (.inl ⟨by omega, by omega⟩)) q)
  have HM1 := Lib.hid (fun w => thing_2 n (by omega) w)
  clear I J K hq q hv ha G
  go_enter Try.func24, Try.ntmps24
  go_wp2_with fail
  obtain ⟨W0, hW0⟩ : ∃ x, ((w.alloc (.cells (BoC (N : Int) bl bh rl rh (.slice aP nP cP) (.slice aQ nQ cQ) (.slice aL nL cL)) 27)).alloc (.cells #[.int .i64 0, .int .i64 0] 23)).alloc (.cells #[.int .i64 n] 3) = x := ⟨_, rfl⟩
  obtain ⟨q0, e0⟩ : ∃ x, w.heap.size = x := ⟨_, rfl⟩
  obtain ⟨q1, e1⟩ : ∃ x, q0 + 1 = x := ⟨_, rfl⟩
  obtain ⟨q2, e2⟩ : ∃ x, q1 + 1 = x := ⟨_, rfl⟩
  have U0 : Up w W0 := by rw [← hW0]; exact (((Up.refl w).alloc _).alloc _).alloc _
  have kR : mblk W0 q1 = some (.cells #[.int .i64 0, .int .i64 0] 23 (0, 0)) := by rw [← hW0]; exact blk_keep _ (blk_new _ _ _ (by simp; omega))
  have kC : mblk W0 q2 = some (.cells #[.int .i64 n] 3 (0, 0)) := by rw [← hW0]; exact blk_new _ _ _ (by simp; omega)
  rw [hW0, e0, e1, e2]
  clear hW0
  refine (HN.out W0 U0 _ _ _ (ints1 kC)).mono ?_
  rintro e W1 ⟨⟨aT, nT, cT, rfl, hT⟩, u1⟩
  replace kR := u1.blk kR
  have lR := blk_lt kR
  have UW := U0.trans u1
  clear HN U0 kC u1
  have kR2 := blk_keep (.cells (WeC (N : Int) bl bh rl rh (.slice aP nP cP) (.slice aQ nQ cQ) (.slice aL nL cL) T.o0 (.slice aT nT cT)) 90) kR
  have lR2 := blk_lt kR2
  go_wp2_with fail
  obtain ⟨W2, hW2⟩ : ∃ z, W1.alloc (.cells (WeC (N : Int) bl bh rl rh (.slice aP nP cP) (.slice aQ nQ cQ) (.slice aL nL cL) T.o0 (.slice aT nT cT)) 90) = z := ⟨_, rfl⟩
  obtain ⟨q8, e8⟩ : ∃ z, W1.heap.size = z := ⟨_, rfl⟩
  have u2 : Up W1 W2 := by rw [← hW2]; exact (Up.refl W1).alloc _
  have kW : mblk W2 q8 = some (.cells (WeC (N : Int) bl bh rl rh (.slice aP nP cP) (.slice aQ nQ cQ) (.slice aL nL cL) T.o0 (.slice aT nT cT)) 90 (0, 0)) := by rw [← hW2]; exact blk_new _ _ _ e8.symm
  replace kR := u2.blk kR
  replace UW := UW.trans u2
  try rw [hW2, e8]
  clear hW2 kR2 lR2
  have hmx : Try.prog.follows .mixedOrders = true := by kernel_rfl
  have F1 := Lib.hid (fun w (u : Up W2 w) => u.blk kW)
  have HT := Lib.hid hT
  have HU2 := Lib.hid u2
  clear hT u2 kW
  refine (wpIn_wide (n := 5)).1 ?_
  refine wpIn_nrm ?_
  refine T.regionQ (fun w' => Up W2 w') 6 2 hmx (by kernel_rfl) (by kernel_rfl) ((Up.refl W2).drew) (fun hCl => ?_)
  refine T.qTake (i := 0) (d := (some 19)) (v := ?v1) rfl rfl (by kernel_rfl) (by decide) hCl (by kernel_rfl) (by kernel_rfl) (by kernel_rfl) (by rfl) ?hy1 (fun _ _ _ => trivial) (fun hCl' => ?_)
  case hy1 => (intro w hSw; refine T.qVal ?_ hSw; (have f1 := F1.out w hSw); go_simp; try with_reducible rfl)
  simp only [Act.put, List.setIfInBounds_toArray, List.set_cons_zero, List.set_cons_succ]
  replace hCl := hCl'; clear hCl'
  refine T.qTake (i := 1) (d := (some 20)) (v := ?v2) rfl rfl (by kernel_rfl) (by decide) hCl (by kernel_rfl) (by kernel_rfl) (by kernel_rfl) (by rfl) ?hy2 (fun _ _ _ => trivial) (fun hCl' => ?_)
  case hy2 => (intro w hSw; refine T.qVal ?_ hSw; (have f1 := F1.out w hSw); go_simp; try with_reducible rfl)
  simp only [Act.put, List.setIfInBounds_toArray, List.set_cons_zero, List.set_cons_succ]
  replace hCl := hCl'; clear hCl'
  refine T.qTake (i := 2) (d := (some 21)) (v := (.int .i64 (1 + n))) rfl rfl (by kernel_rfl) (by decide) hCl (by kernel_rfl) (by kernel_rfl) (by kernel_rfl) (by rfl) ?hy3 (fun _ _ _ => trivial) (fun hCl' => ?_)
  case hy3 => (intro w hSw; (have f1 := F1.out w hSw); go_simp; (refine (callsIn_wide.2 (HM1.out w)).mono ?_; rintro e w3 ⟨rfl, u3⟩; exact ⟨rfl, hSw.trans u3⟩))
  simp only [Act.put, List.setIfInBounds_toArray, List.set_cons_zero, List.set_cons_succ]
  replace hCl := hCl'; clear hCl'
  refine T.qTake (i := 3) (d := (some 22)) (v := (.tuple #[SpV lo hi, .int .i64 eE])) rfl rfl (by kernel_rfl) (by decide) hCl (by kernel_rfl) (by kernel_rfl) (by kernel_rfl) (by rfl) ?hy4 (fun _ _ _ => trivial) (fun hCl' => ?_)
  case hy4 => (intro w hSw; (have f1 := F1.out w hSw); go_simp; (refine (callsIn_wide.2 (HA.out _ _ _ _ w HT.out (HU2.out.trans hSw))).mono ?_; rintro e w3 ⟨rfl, u3⟩; exact ⟨rfl, hSw.trans u3⟩))
  simp only [Act.put, List.setIfInBounds_toArray, List.set_cons_zero, List.set_cons_succ]
  replace hCl := hCl'; clear hCl'
  refine T.qTake (i := 4) (d := (some 23)) (v := ?v5) rfl rfl (by kernel_rfl) (by decide) hCl (by kernel_rfl) (by kernel_rfl) (by kernel_rfl) (by rfl) ?hy5 (fun _ _ _ => trivial) (fun hCl' => ?_)
  case hy5 => (intro w hSw; refine T.qVal ?_ hSw; (have f1 := F1.out w hSw); go_simp; try with_reducible rfl)
  simp only [Act.put, List.setIfInBounds_toArray, List.set_cons_zero, List.set_cons_succ]
  replace hCl := hCl'; clear hCl'
  refine T.qTake (i := 5) (d := (some 24)) (v := ?v6) rfl rfl (by kernel_rfl) (by decide) hCl (by kernel_rfl) (by kernel_rfl) (by kernel_rfl) (by rfl) ?hy6 (fun _ _ _ => trivial) (fun hCl' => ?_)
  case hy6 => (intro w hSw; refine T.qVal ?_ hSw; (have f1 := F1.out w hSw); go_simp; try with_reducible rfl)
  simp only [Act.put, List.setIfInBounds_toArray, List.set_cons_zero, List.set_cons_succ]
  replace hCl := hCl'; clear hCl'
  refine T.tail_intro (by kernel_rfl) (fun Y hY => ?_)
  have kR2 := hY.blk kR
  have fR := frozB kR2
  have cR := cellB kR2
  have lY := blk_lt kR2
  have UY := UW.trans hY
  refine lastG (i := 6) (by kernel_rfl) rfl (by rfl) (by decide) (fun K hK => ?_)
  go_simp
  refine hK.out _ _ ?_
  clear hK K
  refine lastG (i := 7) (by kernel_rfl) rfl (by rfl) (by decide) (fun K hK => ?_)
  go_simp
  refine hK.out _ _ ?_
  clear hK K
  refine doneG (by kernel_rfl) ?_ _
  refine S.nrm_intro ?_
  obtain ⟨Z, hZ⟩ : ∃ z, (Y.setCell ⟨q1, 0, none⟩ (.int .i64 lo)).setCell ⟨q1, 1, none⟩ (.int .i64 hi) = z := ⟨_, rfl⟩
  have UZ : Up w Z := by rw [← hZ]; exact (UY.set (p := ⟨q1, 0, none⟩) (by show w.heap.size ≤ q1; omega) _).set (p := ⟨q1, 1, none⟩) (by show w.heap.size ≤ q1; omega) _
  have cZ : ∀ j, Z.cell? ⟨q1, j, none⟩ = (#[Value.int .i64 lo, .int .i64 hi] : Array Value)[j]? := by rw [← hZ]; exact cellB (blk_put (blk_put kR2 0 _) 1 _)
  rw [hZ]
  clear hZ fR cR kR2
  go_wp2_with fail
  exact bodyPost_ret (v := .tuple #[SpV lo hi, .int .i64 eE]) (by simp [results, Try.results24, go_sem, cZ]) rfl ⟨rfl, UZ⟩
set_option maxRecDepth 100000 in
set_option maxHeartbeats 1000000 in
theorem Person_bad {w : World} {M n : Int} (I : Sps w (.slice aP nP cP) ps) (J : Sps w (.slice aQ nQ cQ) qs) (K : Lks w (.slice aL nL cL) ls) {eq : Int} (hq : T.qErr M bl bh rl rh ps qs ls 0 [n] = eq) (h0 : eq ≠ 0) :
    Calls Try.prog 26 #[BoV M bl bh rl rh (.slice aP nP cP) (.slice aQ nQ cQ) (.slice aL nL cL), .int .i64 n] w fun e w' => e = .returned (.tuple #[SpV 0 0, .int .i64 eq]) ∧ Up w w' := by
  have HN := Lib.hid (fun w' (u : Up w w') (ac : Option Addr) (nc cc : Nat) (C : Ints w' (.slice ac nc cc) [n]) => newQuestion_bad (I.up u) (J.up u) (K.up u) C (by omega) hq h0)
  have hb : (eq != 0) = true := by rw [bne_iff_ne]; exact h0
  clear I J K hq
  go_enter Try.func26, Try.ntmps26
  go_wp2_with fail
  obtain ⟨W0, hW0⟩ : ∃ x, ((w.alloc (.cells (BoC M bl bh rl rh (.slice aP nP cP) (.slice aQ nQ cQ) (.slice aL nL cL)) 27)).alloc (.cells #[.int .i64 0, .int .i64 0] 23)).alloc (.cells #[.int .i64 n] 3) = x := ⟨_, rfl⟩
  obtain ⟨q0, e0⟩ : ∃ x, w.heap.size = x := ⟨_, rfl⟩
  obtain ⟨q1, e1⟩ : ∃ x, q0 + 1 = x := ⟨_, rfl⟩
  obtain ⟨q2, e2⟩ : ∃ x, q1 + 1 = x := ⟨_, rfl⟩
  have U0 : Up w W0 := by rw [← hW0]; exact (((Up.refl w).alloc _).alloc _).alloc _
  have kR : mblk W0 q1 = some (.cells #[.int .i64 0, .int .i64 0] 23 (0, 0)) := by rw [← hW0]; exact blk_keep _ (blk_new _ _ _ (by simp; omega))
  have kC : mblk W0 q2 = some (.cells #[.int .i64 n] 3 (0, 0)) := by rw [← hW0]; exact blk_new _ _ _ (by simp; omega)
  rw [hW0, e0, e1, e2]
  clear hW0
  refine (HN.out W0 U0 _ _ _ (ints1 kC)).mono ?_
  rintro e W1 ⟨rfl, u1⟩
  replace kR := u1.blk kR
  have lR := blk_lt kR
  have UW := U0.trans u1
  clear HN U0 kC u1
  have kR2 := blk_keep (.cells #[.int .i64 0, .int .i64 0, .int .i64 0, .int .i64 0, .int .i64 0, .slice none 0 0, .slice none 0 0, .slice none 0 0, .bool false, .bool false, .bool false, .bool false, .bool false, .bool false, .bool false, .bool false, .bool false, .bool false, .slice none 0 0] 90) kR
  have fR := frozB kR
  have fR2 := frozB kR2
  have cR := cellB kR
  have cR2 := cellB kR2
  have hst : (webStore (.pointer (some ⟨W1.heap.size, 0, none⟩)) WeZ).run Try.prog (W1.alloc (.cells #[.int .i64 0, .int .i64 0, .int .i64 0, .int .i64 0, .int .i64 0, .slice none 0 0, .slice none 0 0, .slice none 0 0, .bool false, .bool false, .bool false, .bool false, .bool false, .bool false, .bool false, .bool false, .bool false, .bool false, .slice none 0 0] 90)) = .ok () (W1.alloc (.cells #[.int .i64 0, .int .i64 0, .int .i64 0, .int .i64 0, .int .i64 0, .slice none 0 0, .slice none 0 0, .slice none 0 0, .bool false, .bool false, .bool false, .bool false, .bool false, .bool false, .bool false, .bool false, .bool false, .bool false, .slice none 0 0] 90)) := by
    have q := run_webStore_row (W1.alloc (.cells #[.int .i64 0, .int .i64 0, .int .i64 0, .int .i64 0, .int .i64 0, .slice none 0 0, .slice none 0 0, .slice none 0 0, .bool false, .bool false, .bool false, .bool false, .bool false, .bool false, .bool false, .bool false, .bool false, .bool false, .slice none 0 0] 90)) W1.heap.size #[.int .i64 0, .int .i64 0, .int .i64 0, .int .i64 0, .int .i64 0, .slice none 0 0, .slice none 0 0, .slice none 0 0, .bool false, .bool false, .bool false, .bool false, .bool false, .bool false, .bool false, .bool false, .bool false, .bool false, .slice none 0 0] #[.int .i64 0, .int .i64 0, .int .i64 0, .int .i64 0, .int .i64 0, .slice none 0 0, .slice none 0 0, .slice none 0 0, .bool false, .bool false, .bool false, .bool false, .bool false, .bool false, .bool false, .bool false, .bool false, .bool false, .slice none 0 0] (blk_new _ _ _ rfl) rfl ⟨rfl, by simp [Value.oneCell']⟩
    rw [setRow_new _ _ _ _ _ rfl] at q
    exact q
  go_wp2_with fail
  obtain ⟨Z, hZ⟩ : ∃ z, ((W1.setCell ⟨q1, 0, none⟩ (.int .i64 0)).setCell ⟨q1, 1, none⟩ (.int .i64 0)).alloc (.cells #[.int .i64 0, .int .i64 0, .int .i64 0, .int .i64 0, .int .i64 0, .slice none 0 0, .slice none 0 0, .slice none 0 0, .bool false, .bool false, .bool false, .bool false, .bool false, .bool false, .bool false, .bool false, .bool false, .bool false, .slice none 0 0] 90) = z := ⟨_, rfl⟩
  have UZ : Up w Z := by rw [← hZ]; exact ((UW.set (p := ⟨q1, 0, none⟩) (by show w.heap.size ≤ q1; omega) _).set (p := ⟨q1, 1, none⟩) (by show w.heap.size ≤ q1; omega) _).alloc _
  have cZ : ∀ j, Z.cell? ⟨q1, j, none⟩ = (#[Value.int .i64 0, .int .i64 0] : Array Value)[j]? := by rw [← hZ]; exact cellB (blk_keep _ (blk_put (blk_put kR 0 _) 1 _))
  rw [hZ]
  exact bodyPost_ret (v := .tuple #[SpV 0 0, .int .i64 eq]) (by simp [results, Try.results26, go_sem, cZ]) rfl ⟨rfl, UZ⟩
set_option maxRecDepth 100000 in
set_option maxHeartbeats 1000000 in
theorem Person_ok {w : World} {n : Int} (I : Sps w (.slice aP nP cP) ps) (J : Sps w (.slice aQ nQ cQ) qs) (K : Lks w (.slice aL nL cL) ls) (hq : T.qErr N bl bh rl rh ps qs ls 0 [n] = 0) {lo hi eE : Int} (q : T.Asked (T.web N bl bh rl rh ps qs ls T.o0) (9 + n) 0 lo hi eE) :
    Calls Try.prog 26 #[BoV (N : Int) bl bh rl rh (.slice aP nP cP) (.slice aQ nQ cQ) (.slice aL nL cL), .int .i64 n] w fun e w' => e = .returned (.tuple #[SpV lo hi, .int .i64 eE]) ∧ Up w w' := by
  obtain ⟨hv, ha⟩ := T.qErr_ok hq
  have G := T.valid_bok hv
  have HN := Lib.hid (fun w' (u : Up w w') (ac : Option Addr) (nc cc : Nat) (C : Ints w' (.slice ac nc cc) [n]) => newQuestion_yes (I.up u) (J.up u) (K.up u) C (by omega) hv ha)
  simp only [T.askd, T.many, List.all_cons, List.all_nil, Bool.and_true, inB_iff] at ha
  have n8 := G.n8
  have p4 := G.p4
  have q4 := G.q4
  have HA := Lib.hid (fun aT nT cT w0 w' (IT : Tis w0 (.slice aT nT cT) _) (u : Up w0 w') => between_is (bl := bl) (bh := bh) (rl := rl) (rh := rh) (aP := aP) (nP := nP) (cP := cP) (aQ := aQ) (nQ := nQ) (cQ := cQ) (aL := aL) (nL := nL) (cL := cL) (o := T.o0) (M := (N : Int)) IT u (T.valid_web hv T.o0) (m := (9 + n)) (i := 0) (.inr (.inr (.inl ⟨by omega, by omega⟩))) (.inl rfl) q)
  have HM1 := Lib.hid (fun w => thing_0 n (by omega) w)
  clear I J K hq q hv ha G
  go_enter Try.func26, Try.ntmps26
  go_wp2_with fail
  obtain ⟨W0, hW0⟩ : ∃ x, ((w.alloc (.cells (BoC (N : Int) bl bh rl rh (.slice aP nP cP) (.slice aQ nQ cQ) (.slice aL nL cL)) 27)).alloc (.cells #[.int .i64 0, .int .i64 0] 23)).alloc (.cells #[.int .i64 n] 3) = x := ⟨_, rfl⟩
  obtain ⟨q0, e0⟩ : ∃ x, w.heap.size = x := ⟨_, rfl⟩
  obtain ⟨q1, e1⟩ : ∃ x, q0 + 1 = x := ⟨_, rfl⟩
  obtain ⟨q2, e2⟩ : ∃ x, q1 + 1 = x := ⟨_, rfl⟩
  have U0 : Up w W0 := by rw [← hW0]; exact (((Up.refl w).alloc _).alloc _).alloc _
  have kR : mblk W0 q1 = some (.cells #[.int .i64 0, .int .i64 0] 23 (0, 0)) := by rw [← hW0]; exact blk_keep _ (blk_new _ _ _ (by simp; omega))
  have kC : mblk W0 q2 = some (.cells #[.int .i64 n] 3 (0, 0)) := by rw [← hW0]; exact blk_new _ _ _ (by simp; omega)
  rw [hW0, e0, e1, e2]
  clear hW0
  refine (HN.out W0 U0 _ _ _ (ints1 kC)).mono ?_
  rintro e W1 ⟨⟨aT, nT, cT, rfl, hT⟩, u1⟩
  replace kR := u1.blk kR
  have lR := blk_lt kR
  have UW := U0.trans u1
  clear HN U0 kC u1
  have kR2 := blk_keep (.cells (WeC (N : Int) bl bh rl rh (.slice aP nP cP) (.slice aQ nQ cQ) (.slice aL nL cL) T.o0 (.slice aT nT cT)) 90) kR
  have lR2 := blk_lt kR2
  go_wp2_with fail
  obtain ⟨W2, hW2⟩ : ∃ z, W1.alloc (.cells (WeC (N : Int) bl bh rl rh (.slice aP nP cP) (.slice aQ nQ cQ) (.slice aL nL cL) T.o0 (.slice aT nT cT)) 90) = z := ⟨_, rfl⟩
  obtain ⟨q8, e8⟩ : ∃ z, W1.heap.size = z := ⟨_, rfl⟩
  have u2 : Up W1 W2 := by rw [← hW2]; exact (Up.refl W1).alloc _
  have kW : mblk W2 q8 = some (.cells (WeC (N : Int) bl bh rl rh (.slice aP nP cP) (.slice aQ nQ cQ) (.slice aL nL cL) T.o0 (.slice aT nT cT)) 90 (0, 0)) := by rw [← hW2]; exact blk_new _ _ _ e8.symm
  replace kR := u2.blk kR
  replace UW := UW.trans u2
  try rw [hW2, e8]
  clear hW2 kR2 lR2
  have hmx : Try.prog.follows .mixedOrders = true := by kernel_rfl
  have F1 := Lib.hid (fun w (u : Up W2 w) => u.blk kW)
  have HT := Lib.hid hT
  have HU2 := Lib.hid u2
  clear hT u2 kW
  refine (wpIn_wide (n := 5)).1 ?_
  refine wpIn_nrm ?_
  refine T.regionQ (fun w' => Up W2 w') 6 2 hmx (by kernel_rfl) (by kernel_rfl) ((Up.refl W2).drew) (fun hCl => ?_)
  refine T.qTake (i := 0) (d := (some 19)) (v := ?v7) rfl rfl (by kernel_rfl) (by decide) hCl (by kernel_rfl) (by kernel_rfl) (by kernel_rfl) (by rfl) ?hy7 (fun _ _ _ => trivial) (fun hCl' => ?_)
  case hy7 => (intro w hSw; refine T.qVal ?_ hSw; (have f1 := F1.out w hSw); go_simp; try with_reducible rfl)
  simp only [Act.put, List.setIfInBounds_toArray, List.set_cons_zero, List.set_cons_succ]
  replace hCl := hCl'; clear hCl'
  refine T.qTake (i := 1) (d := (some 20)) (v := ?v8) rfl rfl (by kernel_rfl) (by decide) hCl (by kernel_rfl) (by kernel_rfl) (by kernel_rfl) (by rfl) ?hy8 (fun _ _ _ => trivial) (fun hCl' => ?_)
  case hy8 => (intro w hSw; refine T.qVal ?_ hSw; (have f1 := F1.out w hSw); go_simp; try with_reducible rfl)
  simp only [Act.put, List.setIfInBounds_toArray, List.set_cons_zero, List.set_cons_succ]
  replace hCl := hCl'; clear hCl'
  refine T.qTake (i := 2) (d := (some 21)) (v := (.int .i64 (9 + n))) rfl rfl (by kernel_rfl) (by decide) hCl (by kernel_rfl) (by kernel_rfl) (by kernel_rfl) (by rfl) ?hy9 (fun _ _ _ => trivial) (fun hCl' => ?_)
  case hy9 => (intro w hSw; (have f1 := F1.out w hSw); go_simp; (refine (callsIn_wide.2 (HM1.out w)).mono ?_; rintro e w3 ⟨rfl, u3⟩; exact ⟨rfl, hSw.trans u3⟩))
  simp only [Act.put, List.setIfInBounds_toArray, List.set_cons_zero, List.set_cons_succ]
  replace hCl := hCl'; clear hCl'
  refine T.qTake (i := 3) (d := (some 22)) (v := (.tuple #[SpV lo hi, .int .i64 eE])) rfl rfl (by kernel_rfl) (by decide) hCl (by kernel_rfl) (by kernel_rfl) (by kernel_rfl) (by rfl) ?hy10 (fun _ _ _ => trivial) (fun hCl' => ?_)
  case hy10 => (intro w hSw; (have f1 := F1.out w hSw); go_simp; (refine (callsIn_wide.2 (HA.out _ _ _ _ w HT.out (HU2.out.trans hSw))).mono ?_; rintro e w3 ⟨rfl, u3⟩; exact ⟨rfl, hSw.trans u3⟩))
  simp only [Act.put, List.setIfInBounds_toArray, List.set_cons_zero, List.set_cons_succ]
  replace hCl := hCl'; clear hCl'
  refine T.qTake (i := 4) (d := (some 23)) (v := ?v11) rfl rfl (by kernel_rfl) (by decide) hCl (by kernel_rfl) (by kernel_rfl) (by kernel_rfl) (by rfl) ?hy11 (fun _ _ _ => trivial) (fun hCl' => ?_)
  case hy11 => (intro w hSw; refine T.qVal ?_ hSw; (have f1 := F1.out w hSw); go_simp; try with_reducible rfl)
  simp only [Act.put, List.setIfInBounds_toArray, List.set_cons_zero, List.set_cons_succ]
  replace hCl := hCl'; clear hCl'
  refine T.qTake (i := 5) (d := (some 24)) (v := ?v12) rfl rfl (by kernel_rfl) (by decide) hCl (by kernel_rfl) (by kernel_rfl) (by kernel_rfl) (by rfl) ?hy12 (fun _ _ _ => trivial) (fun hCl' => ?_)
  case hy12 => (intro w hSw; refine T.qVal ?_ hSw; (have f1 := F1.out w hSw); go_simp; try with_reducible rfl)
  simp only [Act.put, List.setIfInBounds_toArray, List.set_cons_zero, List.set_cons_succ]
  replace hCl := hCl'; clear hCl'
  refine T.tail_intro (by kernel_rfl) (fun Y hY => ?_)
  have kR2 := hY.blk kR
  have fR := frozB kR2
  have cR := cellB kR2
  have lY := blk_lt kR2
  have UY := UW.trans hY
  refine lastG (i := 6) (by kernel_rfl) rfl (by rfl) (by decide) (fun K hK => ?_)
  go_simp
  refine hK.out _ _ ?_
  clear hK K
  refine lastG (i := 7) (by kernel_rfl) rfl (by rfl) (by decide) (fun K hK => ?_)
  go_simp
  refine hK.out _ _ ?_
  clear hK K
  refine doneG (by kernel_rfl) ?_ _
  refine S.nrm_intro ?_
  obtain ⟨Z, hZ⟩ : ∃ z, (Y.setCell ⟨q1, 0, none⟩ (.int .i64 lo)).setCell ⟨q1, 1, none⟩ (.int .i64 hi) = z := ⟨_, rfl⟩
  have UZ : Up w Z := by rw [← hZ]; exact (UY.set (p := ⟨q1, 0, none⟩) (by show w.heap.size ≤ q1; omega) _).set (p := ⟨q1, 1, none⟩) (by show w.heap.size ≤ q1; omega) _
  have cZ : ∀ j, Z.cell? ⟨q1, j, none⟩ = (#[Value.int .i64 lo, .int .i64 hi] : Array Value)[j]? := by rw [← hZ]; exact cellB (blk_put (blk_put kR2 0 _) 1 _)
  rw [hZ]
  clear hZ fR cR kR2
  go_wp2_with fail
  exact bodyPost_ret (v := .tuple #[SpV lo hi, .int .i64 eE]) (by simp [results, Try.results26, go_sem, cZ]) rfl ⟨rfl, UZ⟩
set_option maxRecDepth 100000 in
set_option maxHeartbeats 1000000 in
theorem Path_bad {w : World} {M n : Int} (I : Sps w (.slice aP nP cP) ps) (J : Sps w (.slice aQ nQ cQ) qs) (K : Lks w (.slice aL nL cL) ls) {eq : Int} (hq : T.qErr M bl bh rl rh ps qs ls 1 [n] = eq) (h0 : eq ≠ 0) :
    Calls Try.prog 28 #[BoV M bl bh rl rh (.slice aP nP cP) (.slice aQ nQ cQ) (.slice aL nL cL), .int .i64 n] w fun e w' => e = .returned (.tuple #[SpV 0 0, .int .i64 eq]) ∧ Up w w' := by
  have HN := Lib.hid (fun w' (u : Up w w') (ac : Option Addr) (nc cc : Nat) (C : Ints w' (.slice ac nc cc) [n]) => newQuestion_bad (I.up u) (J.up u) (K.up u) C (by omega) hq h0)
  have hb : (eq != 0) = true := by rw [bne_iff_ne]; exact h0
  clear I J K hq
  go_enter Try.func28, Try.ntmps28
  go_wp2_with fail
  obtain ⟨W0, hW0⟩ : ∃ x, ((w.alloc (.cells (BoC M bl bh rl rh (.slice aP nP cP) (.slice aQ nQ cQ) (.slice aL nL cL)) 27)).alloc (.cells #[.int .i64 0, .int .i64 0] 23)).alloc (.cells #[.int .i64 n] 3) = x := ⟨_, rfl⟩
  obtain ⟨q0, e0⟩ : ∃ x, w.heap.size = x := ⟨_, rfl⟩
  obtain ⟨q1, e1⟩ : ∃ x, q0 + 1 = x := ⟨_, rfl⟩
  obtain ⟨q2, e2⟩ : ∃ x, q1 + 1 = x := ⟨_, rfl⟩
  have U0 : Up w W0 := by rw [← hW0]; exact (((Up.refl w).alloc _).alloc _).alloc _
  have kR : mblk W0 q1 = some (.cells #[.int .i64 0, .int .i64 0] 23 (0, 0)) := by rw [← hW0]; exact blk_keep _ (blk_new _ _ _ (by simp; omega))
  have kC : mblk W0 q2 = some (.cells #[.int .i64 n] 3 (0, 0)) := by rw [← hW0]; exact blk_new _ _ _ (by simp; omega)
  rw [hW0, e0, e1, e2]
  clear hW0
  refine (HN.out W0 U0 _ _ _ (ints1 kC)).mono ?_
  rintro e W1 ⟨rfl, u1⟩
  replace kR := u1.blk kR
  have lR := blk_lt kR
  have UW := U0.trans u1
  clear HN U0 kC u1
  have kR2 := blk_keep (.cells #[.int .i64 0, .int .i64 0, .int .i64 0, .int .i64 0, .int .i64 0, .slice none 0 0, .slice none 0 0, .slice none 0 0, .bool false, .bool false, .bool false, .bool false, .bool false, .bool false, .bool false, .bool false, .bool false, .bool false, .slice none 0 0] 90) kR
  have fR := frozB kR
  have fR2 := frozB kR2
  have cR := cellB kR
  have cR2 := cellB kR2
  have hst : (webStore (.pointer (some ⟨W1.heap.size, 0, none⟩)) WeZ).run Try.prog (W1.alloc (.cells #[.int .i64 0, .int .i64 0, .int .i64 0, .int .i64 0, .int .i64 0, .slice none 0 0, .slice none 0 0, .slice none 0 0, .bool false, .bool false, .bool false, .bool false, .bool false, .bool false, .bool false, .bool false, .bool false, .bool false, .slice none 0 0] 90)) = .ok () (W1.alloc (.cells #[.int .i64 0, .int .i64 0, .int .i64 0, .int .i64 0, .int .i64 0, .slice none 0 0, .slice none 0 0, .slice none 0 0, .bool false, .bool false, .bool false, .bool false, .bool false, .bool false, .bool false, .bool false, .bool false, .bool false, .slice none 0 0] 90)) := by
    have q := run_webStore_row (W1.alloc (.cells #[.int .i64 0, .int .i64 0, .int .i64 0, .int .i64 0, .int .i64 0, .slice none 0 0, .slice none 0 0, .slice none 0 0, .bool false, .bool false, .bool false, .bool false, .bool false, .bool false, .bool false, .bool false, .bool false, .bool false, .slice none 0 0] 90)) W1.heap.size #[.int .i64 0, .int .i64 0, .int .i64 0, .int .i64 0, .int .i64 0, .slice none 0 0, .slice none 0 0, .slice none 0 0, .bool false, .bool false, .bool false, .bool false, .bool false, .bool false, .bool false, .bool false, .bool false, .bool false, .slice none 0 0] #[.int .i64 0, .int .i64 0, .int .i64 0, .int .i64 0, .int .i64 0, .slice none 0 0, .slice none 0 0, .slice none 0 0, .bool false, .bool false, .bool false, .bool false, .bool false, .bool false, .bool false, .bool false, .bool false, .bool false, .slice none 0 0] (blk_new _ _ _ rfl) rfl ⟨rfl, by simp [Value.oneCell']⟩
    rw [setRow_new _ _ _ _ _ rfl] at q
    exact q
  go_wp2_with fail
  obtain ⟨Z, hZ⟩ : ∃ z, ((W1.setCell ⟨q1, 0, none⟩ (.int .i64 0)).setCell ⟨q1, 1, none⟩ (.int .i64 0)).alloc (.cells #[.int .i64 0, .int .i64 0, .int .i64 0, .int .i64 0, .int .i64 0, .slice none 0 0, .slice none 0 0, .slice none 0 0, .bool false, .bool false, .bool false, .bool false, .bool false, .bool false, .bool false, .bool false, .bool false, .bool false, .slice none 0 0] 90) = z := ⟨_, rfl⟩
  have UZ : Up w Z := by rw [← hZ]; exact ((UW.set (p := ⟨q1, 0, none⟩) (by show w.heap.size ≤ q1; omega) _).set (p := ⟨q1, 1, none⟩) (by show w.heap.size ≤ q1; omega) _).alloc _
  have cZ : ∀ j, Z.cell? ⟨q1, j, none⟩ = (#[Value.int .i64 0, .int .i64 0] : Array Value)[j]? := by rw [← hZ]; exact cellB (blk_keep _ (blk_put (blk_put kR 0 _) 1 _))
  rw [hZ]
  exact bodyPost_ret (v := .tuple #[SpV 0 0, .int .i64 eq]) (by simp [results, Try.results28, go_sem, cZ]) rfl ⟨rfl, UZ⟩
set_option maxRecDepth 100000 in
set_option maxHeartbeats 1000000 in
theorem Path_ok {w : World} {n : Int} (I : Sps w (.slice aP nP cP) ps) (J : Sps w (.slice aQ nQ cQ) qs) (K : Lks w (.slice aL nL cL) ls) (hq : T.qErr N bl bh rl rh ps qs ls 1 [n] = 0) {lo hi eE : Int} (q : T.Asked (T.web N bl bh rl rh ps qs ls T.o0) 0 (13 + n) lo hi eE) :
    Calls Try.prog 28 #[BoV (N : Int) bl bh rl rh (.slice aP nP cP) (.slice aQ nQ cQ) (.slice aL nL cL), .int .i64 n] w fun e w' => e = .returned (.tuple #[SpV lo hi, .int .i64 eE]) ∧ Up w w' := by
  obtain ⟨hv, ha⟩ := T.qErr_ok hq
  have G := T.valid_bok hv
  have HN := Lib.hid (fun w' (u : Up w w') (ac : Option Addr) (nc cc : Nat) (C : Ints w' (.slice ac nc cc) [n]) => newQuestion_yes (I.up u) (J.up u) (K.up u) C (by omega) hv ha)
  simp only [T.askd, T.many, List.all_cons, List.all_nil, Bool.and_true, inB_iff] at ha
  have n8 := G.n8
  have p4 := G.p4
  have q4 := G.q4
  have HA := Lib.hid (fun aT nT cT w0 w' (IT : Tis w0 (.slice aT nT cT) _) (u : Up w0 w') => between_is (bl := bl) (bh := bh) (rl := rl) (rh := rh) (aP := aP) (nP := nP) (cP := cP) (aQ := aQ) (nQ := nQ) (cQ := cQ) (aL := aL) (nL := nL) (cL := cL) (o := T.o0) (M := (N : Int)) IT u (T.valid_web hv T.o0) (m := 0) (i := (13 + n)) (.inl rfl) (.inr (.inr (.inr ⟨by omega, by omega⟩))) q)
  have HM1 := Lib.hid (fun w => thing_1 n (by omega) w)
  clear I J K hq q hv ha G
  go_enter Try.func28, Try.ntmps28
  go_wp2_with fail
  obtain ⟨W0, hW0⟩ : ∃ x, ((w.alloc (.cells (BoC (N : Int) bl bh rl rh (.slice aP nP cP) (.slice aQ nQ cQ) (.slice aL nL cL)) 27)).alloc (.cells #[.int .i64 0, .int .i64 0] 23)).alloc (.cells #[.int .i64 n] 3) = x := ⟨_, rfl⟩
  obtain ⟨q0, e0⟩ : ∃ x, w.heap.size = x := ⟨_, rfl⟩
  obtain ⟨q1, e1⟩ : ∃ x, q0 + 1 = x := ⟨_, rfl⟩
  obtain ⟨q2, e2⟩ : ∃ x, q1 + 1 = x := ⟨_, rfl⟩
  have U0 : Up w W0 := by rw [← hW0]; exact (((Up.refl w).alloc _).alloc _).alloc _
  have kR : mblk W0 q1 = some (.cells #[.int .i64 0, .int .i64 0] 23 (0, 0)) := by rw [← hW0]; exact blk_keep _ (blk_new _ _ _ (by simp; omega))
  have kC : mblk W0 q2 = some (.cells #[.int .i64 n] 3 (0, 0)) := by rw [← hW0]; exact blk_new _ _ _ (by simp; omega)
  rw [hW0, e0, e1, e2]
  clear hW0
  refine (HN.out W0 U0 _ _ _ (ints1 kC)).mono ?_
  rintro e W1 ⟨⟨aT, nT, cT, rfl, hT⟩, u1⟩
  replace kR := u1.blk kR
  have lR := blk_lt kR
  have UW := U0.trans u1
  clear HN U0 kC u1
  have kR2 := blk_keep (.cells (WeC (N : Int) bl bh rl rh (.slice aP nP cP) (.slice aQ nQ cQ) (.slice aL nL cL) T.o0 (.slice aT nT cT)) 90) kR
  have lR2 := blk_lt kR2
  go_wp2_with fail
  obtain ⟨W2, hW2⟩ : ∃ z, W1.alloc (.cells (WeC (N : Int) bl bh rl rh (.slice aP nP cP) (.slice aQ nQ cQ) (.slice aL nL cL) T.o0 (.slice aT nT cT)) 90) = z := ⟨_, rfl⟩
  obtain ⟨q8, e8⟩ : ∃ z, W1.heap.size = z := ⟨_, rfl⟩
  have u2 : Up W1 W2 := by rw [← hW2]; exact (Up.refl W1).alloc _
  have kW : mblk W2 q8 = some (.cells (WeC (N : Int) bl bh rl rh (.slice aP nP cP) (.slice aQ nQ cQ) (.slice aL nL cL) T.o0 (.slice aT nT cT)) 90 (0, 0)) := by rw [← hW2]; exact blk_new _ _ _ e8.symm
  replace kR := u2.blk kR
  replace UW := UW.trans u2
  try rw [hW2, e8]
  clear hW2 kR2 lR2
  have hmx : Try.prog.follows .mixedOrders = true := by kernel_rfl
  have F1 := Lib.hid (fun w (u : Up W2 w) => u.blk kW)
  have HT := Lib.hid hT
  have HU2 := Lib.hid u2
  clear hT u2 kW
  refine (wpIn_wide (n := 5)).1 ?_
  refine wpIn_nrm ?_
  refine T.regionQ (fun w' => Up W2 w') 6 2 hmx (by kernel_rfl) (by kernel_rfl) ((Up.refl W2).drew) (fun hCl => ?_)
  refine T.qTake (i := 0) (d := (some 19)) (v := ?v13) rfl rfl (by kernel_rfl) (by decide) hCl (by kernel_rfl) (by kernel_rfl) (by kernel_rfl) (by rfl) ?hy13 (fun _ _ _ => trivial) (fun hCl' => ?_)
  case hy13 => (intro w hSw; refine T.qVal ?_ hSw; (have f1 := F1.out w hSw); go_simp; try with_reducible rfl)
  simp only [Act.put, List.setIfInBounds_toArray, List.set_cons_zero, List.set_cons_succ]
  replace hCl := hCl'; clear hCl'
  refine T.qTake (i := 1) (d := (some 20)) (v := ?v14) rfl rfl (by kernel_rfl) (by decide) hCl (by kernel_rfl) (by kernel_rfl) (by kernel_rfl) (by rfl) ?hy14 (fun _ _ _ => trivial) (fun hCl' => ?_)
  case hy14 => (intro w hSw; refine T.qVal ?_ hSw; (have f1 := F1.out w hSw); go_simp; try with_reducible rfl)
  simp only [Act.put, List.setIfInBounds_toArray, List.set_cons_zero, List.set_cons_succ]
  replace hCl := hCl'; clear hCl'
  refine T.qTake (i := 2) (d := (some 21)) (v := (.int .i64 (13 + n))) rfl rfl (by kernel_rfl) (by decide) hCl (by kernel_rfl) (by kernel_rfl) (by kernel_rfl) (by rfl) ?hy15 (fun _ _ _ => trivial) (fun hCl' => ?_)
  case hy15 => (intro w hSw; (have f1 := F1.out w hSw); go_simp; (refine (callsIn_wide.2 (HM1.out w)).mono ?_; rintro e w3 ⟨rfl, u3⟩; exact ⟨rfl, hSw.trans u3⟩))
  simp only [Act.put, List.setIfInBounds_toArray, List.set_cons_zero, List.set_cons_succ]
  replace hCl := hCl'; clear hCl'
  refine T.qTake (i := 3) (d := (some 22)) (v := (.tuple #[SpV lo hi, .int .i64 eE])) rfl rfl (by kernel_rfl) (by decide) hCl (by kernel_rfl) (by kernel_rfl) (by kernel_rfl) (by rfl) ?hy16 (fun _ _ _ => trivial) (fun hCl' => ?_)
  case hy16 => (intro w hSw; (have f1 := F1.out w hSw); go_simp; (refine (callsIn_wide.2 (HA.out _ _ _ _ w HT.out (HU2.out.trans hSw))).mono ?_; rintro e w3 ⟨rfl, u3⟩; exact ⟨rfl, hSw.trans u3⟩))
  simp only [Act.put, List.setIfInBounds_toArray, List.set_cons_zero, List.set_cons_succ]
  replace hCl := hCl'; clear hCl'
  refine T.qTake (i := 4) (d := (some 23)) (v := ?v17) rfl rfl (by kernel_rfl) (by decide) hCl (by kernel_rfl) (by kernel_rfl) (by kernel_rfl) (by rfl) ?hy17 (fun _ _ _ => trivial) (fun hCl' => ?_)
  case hy17 => (intro w hSw; refine T.qVal ?_ hSw; (have f1 := F1.out w hSw); go_simp; try with_reducible rfl)
  simp only [Act.put, List.setIfInBounds_toArray, List.set_cons_zero, List.set_cons_succ]
  replace hCl := hCl'; clear hCl'
  refine T.qTake (i := 5) (d := (some 24)) (v := ?v18) rfl rfl (by kernel_rfl) (by decide) hCl (by kernel_rfl) (by kernel_rfl) (by kernel_rfl) (by rfl) ?hy18 (fun _ _ _ => trivial) (fun hCl' => ?_)
  case hy18 => (intro w hSw; refine T.qVal ?_ hSw; (have f1 := F1.out w hSw); go_simp; try with_reducible rfl)
  simp only [Act.put, List.setIfInBounds_toArray, List.set_cons_zero, List.set_cons_succ]
  replace hCl := hCl'; clear hCl'
  refine T.tail_intro (by kernel_rfl) (fun Y hY => ?_)
  have kR2 := hY.blk kR
  have fR := frozB kR2
  have cR := cellB kR2
  have lY := blk_lt kR2
  have UY := UW.trans hY
  refine lastG (i := 6) (by kernel_rfl) rfl (by rfl) (by decide) (fun K hK => ?_)
  go_simp
  refine hK.out _ _ ?_
  clear hK K
  refine lastG (i := 7) (by kernel_rfl) rfl (by rfl) (by decide) (fun K hK => ?_)
  go_simp
  refine hK.out _ _ ?_
  clear hK K
  refine doneG (by kernel_rfl) ?_ _
  refine S.nrm_intro ?_
  obtain ⟨Z, hZ⟩ : ∃ z, (Y.setCell ⟨q1, 0, none⟩ (.int .i64 lo)).setCell ⟨q1, 1, none⟩ (.int .i64 hi) = z := ⟨_, rfl⟩
  have UZ : Up w Z := by rw [← hZ]; exact (UY.set (p := ⟨q1, 0, none⟩) (by show w.heap.size ≤ q1; omega) _).set (p := ⟨q1, 1, none⟩) (by show w.heap.size ≤ q1; omega) _
  have cZ : ∀ j, Z.cell? ⟨q1, j, none⟩ = (#[Value.int .i64 lo, .int .i64 hi] : Array Value)[j]? := by rw [← hZ]; exact cellB (blk_put (blk_put kR2 0 _) 1 _)
  rw [hZ]
  clear hZ fR cR kR2
  go_wp2_with fail
  exact bodyPost_ret (v := .tuple #[SpV lo hi, .int .i64 eE]) (by simp [results, Try.results28, go_sem, cZ]) rfl ⟨rfl, UZ⟩
set_option maxRecDepth 100000 in
set_option maxHeartbeats 1000000 in
theorem Between_bad {w : World} {M n j : Int} (I : Sps w (.slice aP nP cP) ps) (J : Sps w (.slice aQ nQ cQ) qs) (K : Lks w (.slice aL nL cL) ls) {eq : Int} (hq : T.qErr M bl bh rl rh ps qs ls 2 [n, j] = eq) (h0 : eq ≠ 0) :
    Calls Try.prog 21 #[BoV M bl bh rl rh (.slice aP nP cP) (.slice aQ nQ cQ) (.slice aL nL cL), .int .i64 n, .int .i64 j] w fun e w' => e = .returned (.tuple #[SpV 0 0, .int .i64 eq]) ∧ Up w w' := by
  have HN := Lib.hid (fun w' (u : Up w w') (ac : Option Addr) (nc cc : Nat) (C : Ints w' (.slice ac nc cc) [n, j]) => newQuestion_bad (I.up u) (J.up u) (K.up u) C (by omega) hq h0)
  have hb : (eq != 0) = true := by rw [bne_iff_ne]; exact h0
  clear I J K hq
  go_enter Try.func21, Try.ntmps21
  go_wp2_with fail
  obtain ⟨W0, hW0⟩ : ∃ x, ((w.alloc (.cells (BoC M bl bh rl rh (.slice aP nP cP) (.slice aQ nQ cQ) (.slice aL nL cL)) 27)).alloc (.cells #[.int .i64 0, .int .i64 0] 23)).alloc (.cells #[.int .i64 n, .int .i64 j] 3) = x := ⟨_, rfl⟩
  obtain ⟨q0, e0⟩ : ∃ x, w.heap.size = x := ⟨_, rfl⟩
  obtain ⟨q1, e1⟩ : ∃ x, q0 + 1 = x := ⟨_, rfl⟩
  obtain ⟨q2, e2⟩ : ∃ x, q1 + 1 = x := ⟨_, rfl⟩
  have U0 : Up w W0 := by rw [← hW0]; exact (((Up.refl w).alloc _).alloc _).alloc _
  have kR : mblk W0 q1 = some (.cells #[.int .i64 0, .int .i64 0] 23 (0, 0)) := by rw [← hW0]; exact blk_keep _ (blk_new _ _ _ (by simp; omega))
  have kC : mblk W0 q2 = some (.cells #[.int .i64 n, .int .i64 j] 3 (0, 0)) := by rw [← hW0]; exact blk_new _ _ _ (by simp; omega)
  rw [hW0, e0, e1, e2]
  clear hW0
  refine (HN.out W0 U0 _ _ _ (ints2 kC)).mono ?_
  rintro e W1 ⟨rfl, u1⟩
  replace kR := u1.blk kR
  have lR := blk_lt kR
  have UW := U0.trans u1
  clear HN U0 kC u1
  have kR2 := blk_keep (.cells #[.int .i64 0, .int .i64 0, .int .i64 0, .int .i64 0, .int .i64 0, .slice none 0 0, .slice none 0 0, .slice none 0 0, .bool false, .bool false, .bool false, .bool false, .bool false, .bool false, .bool false, .bool false, .bool false, .bool false, .slice none 0 0] 90) kR
  have fR := frozB kR
  have fR2 := frozB kR2
  have cR := cellB kR
  have cR2 := cellB kR2
  have hst : (webStore (.pointer (some ⟨W1.heap.size, 0, none⟩)) WeZ).run Try.prog (W1.alloc (.cells #[.int .i64 0, .int .i64 0, .int .i64 0, .int .i64 0, .int .i64 0, .slice none 0 0, .slice none 0 0, .slice none 0 0, .bool false, .bool false, .bool false, .bool false, .bool false, .bool false, .bool false, .bool false, .bool false, .bool false, .slice none 0 0] 90)) = .ok () (W1.alloc (.cells #[.int .i64 0, .int .i64 0, .int .i64 0, .int .i64 0, .int .i64 0, .slice none 0 0, .slice none 0 0, .slice none 0 0, .bool false, .bool false, .bool false, .bool false, .bool false, .bool false, .bool false, .bool false, .bool false, .bool false, .slice none 0 0] 90)) := by
    have q := run_webStore_row (W1.alloc (.cells #[.int .i64 0, .int .i64 0, .int .i64 0, .int .i64 0, .int .i64 0, .slice none 0 0, .slice none 0 0, .slice none 0 0, .bool false, .bool false, .bool false, .bool false, .bool false, .bool false, .bool false, .bool false, .bool false, .bool false, .slice none 0 0] 90)) W1.heap.size #[.int .i64 0, .int .i64 0, .int .i64 0, .int .i64 0, .int .i64 0, .slice none 0 0, .slice none 0 0, .slice none 0 0, .bool false, .bool false, .bool false, .bool false, .bool false, .bool false, .bool false, .bool false, .bool false, .bool false, .slice none 0 0] #[.int .i64 0, .int .i64 0, .int .i64 0, .int .i64 0, .int .i64 0, .slice none 0 0, .slice none 0 0, .slice none 0 0, .bool false, .bool false, .bool false, .bool false, .bool false, .bool false, .bool false, .bool false, .bool false, .bool false, .slice none 0 0] (blk_new _ _ _ rfl) rfl ⟨rfl, by simp [Value.oneCell']⟩
    rw [setRow_new _ _ _ _ _ rfl] at q
    exact q
  go_wp2_with fail
  obtain ⟨Z, hZ⟩ : ∃ z, ((W1.setCell ⟨q1, 0, none⟩ (.int .i64 0)).setCell ⟨q1, 1, none⟩ (.int .i64 0)).alloc (.cells #[.int .i64 0, .int .i64 0, .int .i64 0, .int .i64 0, .int .i64 0, .slice none 0 0, .slice none 0 0, .slice none 0 0, .bool false, .bool false, .bool false, .bool false, .bool false, .bool false, .bool false, .bool false, .bool false, .bool false, .slice none 0 0] 90) = z := ⟨_, rfl⟩
  have UZ : Up w Z := by rw [← hZ]; exact ((UW.set (p := ⟨q1, 0, none⟩) (by show w.heap.size ≤ q1; omega) _).set (p := ⟨q1, 1, none⟩) (by show w.heap.size ≤ q1; omega) _).alloc _
  have cZ : ∀ j, Z.cell? ⟨q1, j, none⟩ = (#[Value.int .i64 0, .int .i64 0] : Array Value)[j]? := by rw [← hZ]; exact cellB (blk_keep _ (blk_put (blk_put kR 0 _) 1 _))
  rw [hZ]
  exact bodyPost_ret (v := .tuple #[SpV 0 0, .int .i64 eq]) (by simp [results, Try.results21, go_sem, cZ]) rfl ⟨rfl, UZ⟩
set_option maxRecDepth 100000 in
set_option maxHeartbeats 1000000 in
theorem Between_ok {w : World} {n j : Int} (I : Sps w (.slice aP nP cP) ps) (J : Sps w (.slice aQ nQ cQ) qs) (K : Lks w (.slice aL nL cL) ls) (hq : T.qErr N bl bh rl rh ps qs ls 2 [n, j] = 0) {lo hi eE : Int} (q : T.Asked (T.web N bl bh rl rh ps qs ls T.o0) (1 + n) (1 + j) lo hi eE) :
    Calls Try.prog 21 #[BoV (N : Int) bl bh rl rh (.slice aP nP cP) (.slice aQ nQ cQ) (.slice aL nL cL), .int .i64 n, .int .i64 j] w fun e w' => e = .returned (.tuple #[SpV lo hi, .int .i64 eE]) ∧ Up w w' := by
  obtain ⟨hv, ha⟩ := T.qErr_ok hq
  have G := T.valid_bok hv
  have HN := Lib.hid (fun w' (u : Up w w') (ac : Option Addr) (nc cc : Nat) (C : Ints w' (.slice ac nc cc) [n, j]) => newQuestion_yes (I.up u) (J.up u) (K.up u) C (by omega) hv ha)
  simp only [T.askd, T.many, List.all_cons, List.all_nil, Bool.and_true, Bool.and_eq_true, inB_iff] at ha
  have n8 := G.n8
  have p4 := G.p4
  have q4 := G.q4
  have HA := Lib.hid (fun aT nT cT w0 w' (IT : Tis w0 (.slice aT nT cT) _) (u : Up w0 w') => between_is (bl := bl) (bh := bh) (rl := rl) (rh := rh) (aP := aP) (nP := nP) (cP := cP) (aQ := aQ) (nQ := nQ) (cQ := cQ) (aL := aL) (nL := nL) (cL := cL) (o := T.o0) (M := (N : Int)) IT u (T.valid_web hv T.o0) (m := (1 + n)) (i := (1 + j)) (.inr (.inl ⟨by omega, by omega⟩)) (.inr (.inl ⟨by omega, by omega⟩)) q)
  have HM1 := Lib.hid (fun w => thing_2 n (by omega) w)
  have HM2 := Lib.hid (fun w => thing_2 j (by omega) w)
  clear I J K hq q hv ha G
  go_enter Try.func21, Try.ntmps21
  go_wp2_with fail
  obtain ⟨W0, hW0⟩ : ∃ x, ((w.alloc (.cells (BoC (N : Int) bl bh rl rh (.slice aP nP cP) (.slice aQ nQ cQ) (.slice aL nL cL)) 27)).alloc (.cells #[.int .i64 0, .int .i64 0] 23)).alloc (.cells #[.int .i64 n, .int .i64 j] 3) = x := ⟨_, rfl⟩
  obtain ⟨q0, e0⟩ : ∃ x, w.heap.size = x := ⟨_, rfl⟩
  obtain ⟨q1, e1⟩ : ∃ x, q0 + 1 = x := ⟨_, rfl⟩
  obtain ⟨q2, e2⟩ : ∃ x, q1 + 1 = x := ⟨_, rfl⟩
  have U0 : Up w W0 := by rw [← hW0]; exact (((Up.refl w).alloc _).alloc _).alloc _
  have kR : mblk W0 q1 = some (.cells #[.int .i64 0, .int .i64 0] 23 (0, 0)) := by rw [← hW0]; exact blk_keep _ (blk_new _ _ _ (by simp; omega))
  have kC : mblk W0 q2 = some (.cells #[.int .i64 n, .int .i64 j] 3 (0, 0)) := by rw [← hW0]; exact blk_new _ _ _ (by simp; omega)
  rw [hW0, e0, e1, e2]
  clear hW0
  refine (HN.out W0 U0 _ _ _ (ints2 kC)).mono ?_
  rintro e W1 ⟨⟨aT, nT, cT, rfl, hT⟩, u1⟩
  replace kR := u1.blk kR
  have lR := blk_lt kR
  have UW := U0.trans u1
  clear HN U0 kC u1
  have kR2 := blk_keep (.cells (WeC (N : Int) bl bh rl rh (.slice aP nP cP) (.slice aQ nQ cQ) (.slice aL nL cL) T.o0 (.slice aT nT cT)) 90) kR
  have lR2 := blk_lt kR2
  go_wp2_with fail
  obtain ⟨W2, hW2⟩ : ∃ z, W1.alloc (.cells (WeC (N : Int) bl bh rl rh (.slice aP nP cP) (.slice aQ nQ cQ) (.slice aL nL cL) T.o0 (.slice aT nT cT)) 90) = z := ⟨_, rfl⟩
  obtain ⟨q8, e8⟩ : ∃ z, W1.heap.size = z := ⟨_, rfl⟩
  have u2 : Up W1 W2 := by rw [← hW2]; exact (Up.refl W1).alloc _
  have kW : mblk W2 q8 = some (.cells (WeC (N : Int) bl bh rl rh (.slice aP nP cP) (.slice aQ nQ cQ) (.slice aL nL cL) T.o0 (.slice aT nT cT)) 90 (0, 0)) := by rw [← hW2]; exact blk_new _ _ _ e8.symm
  replace kR := u2.blk kR
  replace UW := UW.trans u2
  try rw [hW2, e8]
  clear hW2 kR2 lR2
  have hmx : Try.prog.follows .mixedOrders = true := by kernel_rfl
  have F1 := Lib.hid (fun w (u : Up W2 w) => u.blk kW)
  have HT := Lib.hid hT
  have HU2 := Lib.hid u2
  clear hT u2 kW
  refine (wpIn_wide (n := 5)).1 ?_
  refine wpIn_nrm ?_
  refine T.regionQ (fun w' => Up W2 w') 8 2 hmx (by kernel_rfl) (by kernel_rfl) ((Up.refl W2).drew) (fun hCl => ?_)
  refine T.qTake (i := 0) (d := (some 22)) (v := ?v19) rfl rfl (by kernel_rfl) (by decide) hCl (by kernel_rfl) (by kernel_rfl) (by kernel_rfl) (by rfl) ?hy19 (fun _ _ _ => trivial) (fun hCl' => ?_)
  case hy19 => (intro w hSw; refine T.qVal ?_ hSw; (have f1 := F1.out w hSw); go_simp; try with_reducible rfl)
  simp only [Act.put, List.setIfInBounds_toArray, List.set_cons_zero, List.set_cons_succ]
  replace hCl := hCl'; clear hCl'
  refine T.qTake (i := 1) (d := (some 23)) (v := ?v20) rfl rfl (by kernel_rfl) (by decide) hCl (by kernel_rfl) (by kernel_rfl) (by kernel_rfl) (by rfl) ?hy20 (fun _ _ _ => trivial) (fun hCl' => ?_)
  case hy20 => (intro w hSw; refine T.qVal ?_ hSw; (have f1 := F1.out w hSw); go_simp; try with_reducible rfl)
  simp only [Act.put, List.setIfInBounds_toArray, List.set_cons_zero, List.set_cons_succ]
  replace hCl := hCl'; clear hCl'
  refine T.qTake (i := 3) (d := (some 25)) (v := ?v21) rfl rfl (by kernel_rfl) (by decide) hCl (by kernel_rfl) (by kernel_rfl) (by kernel_rfl) (by rfl) ?hy21 (fun _ _ _ => trivial) (fun hCl' => ?_)
  case hy21 => (intro w hSw; refine T.qVal ?_ hSw; (have f1 := F1.out w hSw); go_simp; try with_reducible rfl)
  simp only [Act.put, List.setIfInBounds_toArray, List.set_cons_zero, List.set_cons_succ]
  replace hCl := hCl'; clear hCl'
  refine T.qTake (i := 2) (d := (some 24)) (v := (.int .i64 (1 + n))) rfl rfl (by kernel_rfl) (by decide) hCl (by kernel_rfl) (by kernel_rfl) (by kernel_rfl) (by rfl) ?hy22 (fun _ _ _ => trivial) (fun hCl' => ?_)
  case hy22 => (intro w hSw; (have f1 := F1.out w hSw); go_simp; (refine (callsIn_wide.2 (HM1.out w)).mono ?_; rintro e w3 ⟨rfl, u3⟩; exact ⟨rfl, hSw.trans u3⟩))
  simp only [Act.put, List.setIfInBounds_toArray, List.set_cons_zero, List.set_cons_succ]
  replace hCl := hCl'; clear hCl'
  refine T.qTake (i := 4) (d := (some 26)) (v := (.int .i64 (1 + j))) rfl rfl (by kernel_rfl) (by decide) hCl (by kernel_rfl) (by kernel_rfl) (by kernel_rfl) (by rfl) ?hy23 (fun _ _ _ => trivial) (fun hCl' => ?_)
  case hy23 => (intro w hSw; (have f1 := F1.out w hSw); go_simp; (refine (callsIn_wide.2 (HM2.out w)).mono ?_; rintro e w3 ⟨rfl, u3⟩; exact ⟨rfl, hSw.trans u3⟩))
  simp only [Act.put, List.setIfInBounds_toArray, List.set_cons_zero, List.set_cons_succ]
  replace hCl := hCl'; clear hCl'
  refine T.qTake (i := 5) (d := (some 27)) (v := (.tuple #[SpV lo hi, .int .i64 eE])) rfl rfl (by kernel_rfl) (by decide) hCl (by kernel_rfl) (by kernel_rfl) (by kernel_rfl) (by rfl) ?hy24 (fun _ _ _ => trivial) (fun hCl' => ?_)
  case hy24 => (intro w hSw; (have f1 := F1.out w hSw); go_simp; (refine (callsIn_wide.2 (HA.out _ _ _ _ w HT.out (HU2.out.trans hSw))).mono ?_; rintro e w3 ⟨rfl, u3⟩; exact ⟨rfl, hSw.trans u3⟩))
  simp only [Act.put, List.setIfInBounds_toArray, List.set_cons_zero, List.set_cons_succ]
  replace hCl := hCl'; clear hCl'
  refine T.qTake (i := 6) (d := (some 28)) (v := ?v25) rfl rfl (by kernel_rfl) (by decide) hCl (by kernel_rfl) (by kernel_rfl) (by kernel_rfl) (by rfl) ?hy25 (fun _ _ _ => trivial) (fun hCl' => ?_)
  case hy25 => (intro w hSw; refine T.qVal ?_ hSw; (have f1 := F1.out w hSw); go_simp; try with_reducible rfl)
  simp only [Act.put, List.setIfInBounds_toArray, List.set_cons_zero, List.set_cons_succ]
  replace hCl := hCl'; clear hCl'
  refine T.qTake (i := 7) (d := (some 29)) (v := ?v26) rfl rfl (by kernel_rfl) (by decide) hCl (by kernel_rfl) (by kernel_rfl) (by kernel_rfl) (by rfl) ?hy26 (fun _ _ _ => trivial) (fun hCl' => ?_)
  case hy26 => (intro w hSw; refine T.qVal ?_ hSw; (have f1 := F1.out w hSw); go_simp; try with_reducible rfl)
  simp only [Act.put, List.setIfInBounds_toArray, List.set_cons_zero, List.set_cons_succ]
  replace hCl := hCl'; clear hCl'
  refine T.tail_intro (by kernel_rfl) (fun Y hY => ?_)
  have kR2 := hY.blk kR
  have fR := frozB kR2
  have cR := cellB kR2
  have lY := blk_lt kR2
  have UY := UW.trans hY
  refine lastG (i := 8) (by kernel_rfl) rfl (by rfl) (by decide) (fun K hK => ?_)
  go_simp
  refine hK.out _ _ ?_
  clear hK K
  refine lastG (i := 9) (by kernel_rfl) rfl (by rfl) (by decide) (fun K hK => ?_)
  go_simp
  refine hK.out _ _ ?_
  clear hK K
  refine doneG (by kernel_rfl) ?_ _
  refine S.nrm_intro ?_
  obtain ⟨Z, hZ⟩ : ∃ z, (Y.setCell ⟨q1, 0, none⟩ (.int .i64 lo)).setCell ⟨q1, 1, none⟩ (.int .i64 hi) = z := ⟨_, rfl⟩
  have UZ : Up w Z := by rw [← hZ]; exact (UY.set (p := ⟨q1, 0, none⟩) (by show w.heap.size ≤ q1; omega) _).set (p := ⟨q1, 1, none⟩) (by show w.heap.size ≤ q1; omega) _
  have cZ : ∀ j, Z.cell? ⟨q1, j, none⟩ = (#[Value.int .i64 lo, .int .i64 hi] : Array Value)[j]? := by rw [← hZ]; exact cellB (blk_put (blk_put kR2 0 _) 1 _)
  rw [hZ]
  clear hZ fR cR kR2
  go_wp2_with fail
  exact bodyPost_ret (v := .tuple #[SpV lo hi, .int .i64 eE]) (by simp [results, Try.results21, go_sem, cZ]) rfl ⟨rfl, UZ⟩
end

end Go.Proofs.Ytlpkheoljbdajaa
