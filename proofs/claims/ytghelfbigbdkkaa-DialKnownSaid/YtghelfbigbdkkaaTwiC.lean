import Derived.Test.YtghelfbigbdkkaaTwiB
/- The contracts of dial's twice and Twice. -/
namespace Go.Proofs.Ytghelfbigbdkkaa
open Go.RowKit

theorem D.pers_in {T : Int} {p : Int → Bool} (hp : ∀ t, p t = true → t ≤ T) (M : List (Int × Int)) (f a : Int) (f1 : f ≤ T) (hM : D.incr p f (M.map (·.1)) = true) (i : Nat) (hi : i ≤ M.length) :
    f ≤ (D.pers T f a M).getD (i * 3) 0 ∧ (D.pers T f a M).getD (i * 3) 0 ≤ (D.pers T f a M).getD (i * 3 + 1) 0 ∧ (D.pers T f a M).getD (i * 3 + 1) 0 ≤ T := by
  induction M generalizing f a i with
  | nil =>
    obtain rfl : i = 0 := by simpa using hi
    simp [D.pers, f1]
  | cons z M ih =>
    simp only [List.map_cons, D.incr, Bool.and_eq_true, decide_eq_true_eq] at hM
    obtain ⟨⟨h1, h2⟩, h3⟩ := hM
    have h4 := hp _ h2
    match i, hi with
    | 0, _ => simp only [D.pers, Nat.zero_mul, List.getD_cons_zero, Nat.zero_add, List.getD_cons_succ]; omega
    | i + 1, hi =>
      have := ih z.1 z.2 h4 h3 i (by simpa using hi)
      have e : (i + 1) * 3 = i * 3 + 1 + 1 + 1 := by omega
      have e2 : (i + 1) * 3 + 1 = (i * 3 + 1) + 1 + 1 + 1 := by omega
      rw [e2, e]
      simp only [D.pers, List.getD_cons_succ]
      omega

/-- the periods' numbers; the first ticks of a period's minutes, and their numbers -/
def D.perX (T ah : Int) (M : List (Int × Int)) (j : Nat) : Int := (D.pers T 0 ah M).getD j 0
def D.perL (h m s : Int) (x : Nat → Int) (n : Nat) (f u : Int) : List Int := D.mins (D.step h m s x n u) u (u - f).toNat f
/-- what dial's twice has kept after one period -/
def D.twF (h m s : Int) (x : Nat → Int) (n : Nat) (u k : Int) (v : (Int → Int → Int → Int) × Int) (t : Int) : (Int → Int → Int → Int) × Int :=
  D.tw1 v (D.lmin h m (D.rA h m s x n t) (D.rB h m s x n t) (D.rC h m s x n t) k / (h * m)) (D.lmin h m (D.rA h m s x n t) (D.rB h m s x n t) (D.rC h m s x n t) k % (h * m) / m) (D.lmin h m (D.rA h m s x n t) (D.rB h m s x n t) (D.rC h m s x n t) k % (h * m) % m) (D.mask (D.step h m s x n u t) (D.rS h m s x n t))
/-- .. after some periods -/
def D.twV (h m s : Int) (x : Nat → Int) (n : Nat) (X : Nat → Int) : Nat → (Int → Int → Int → Int) × Int
  | 0 => (fun _ _ _ => 0, 0)
  | i + 1 => (D.perL h m s x n (X (i * 3)) (X (i * 3 + 1))).foldl (D.twF h m s x n (X (i * 3 + 1)) (X (i * 3 + 2))) (D.twV h m s x n X i)
def D.twiceV (h m s : Int) (x : Nat → Int) (n : Nat) (ah : Int) (M : List (Int × Int)) : Int := (D.twV h m s x n (D.perX (D.beg h m s x n) ah M) (M.length + 1)).2

theorem D.foldl_range {α : Type} (F : α → Int → α) (u : Int) (L : List Int) (s : α) : (List.range L.length).foldl (fun s k => F s (L.getD k u)) s = L.foldl F s := by
  induction L generalizing s with
  | nil => rfl
  | cons a L ih =>
    rw [List.length_cons, List.range_succ_eq_map, List.foldl_cons, List.foldl_map, List.foldl_cons]
    simp only [List.getD_cons_zero, List.getD_cons_succ]
    exact ih (F s a)
theorem D.foldl_cong {α : Type} (F G : α → Nat → α) (N : Nat) (h : ∀ s k, k < N → F s k = G s k) (s : α) : (List.range N).foldl F s = (List.range N).foldl G s := by
  induction N generalizing s with
  | zero => rfl
  | succ N ih => rw [List.range_succ, List.foldl_append, List.foldl_append, ih (fun s k hk => h s k (by omega)), List.foldl_cons, List.foldl_cons, h _ N (by omega)]; rfl

theorem D.lmin_parts {h m : Int} (h1 : 1 ≤ h) (h2 : h ≤ 24) (m1 : 1 ≤ m) (m2 : m ≤ 60) (v : Int) (v1 : -9223372036854775808 ≤ v) (v2 : v ≤ 9223372036854775807) : D.in64 (v / (h * m)) ∧ D.in64 (v % (h * m) / m) ∧ D.in64 (v % (h * m) % m) := by
  obtain ⟨P1, P2⟩ := D.mul_bd h m h1 h2 m1 m2
  have a1 := Int.emod_nonneg v (show h * m ≠ 0 by omega)
  have a2 := Int.emod_lt_of_pos v (show 0 < h * m by omega)
  have b1 := Int.emod_nonneg (v % (h * m)) (show m ≠ 0 by omega)
  have b2 := Int.emod_lt_of_pos (v % (h * m)) (show 0 < m by omega)
  have c1 : 0 ≤ v % (h * m) / m := Int.ediv_nonneg a1 (by omega)
  have c2 : v % (h * m) / m ≤ v % (h * m) := Int.ediv_le_self _ a1
  have d1 : -9223372036854775808 ≤ v / (h * m) := by
    rw [Int.le_ediv_iff_mul_le (by omega)]
    omega
  have d2 : v / (h * m) ≤ 9223372036854775807 := by
    have : v / (h * m) < 9223372036854775808 := Int.ediv_lt_of_lt_mul (by omega) (by
      have := Int.mul_le_mul_of_nonneg_left (show (1 : Int) ≤ h * m from P1) (show (0 : Int) ≤ 9223372036854775808 by omega)
      omega)
    omega
  exact ⟨⟨d1, d2⟩, ⟨by omega, by omega⟩, ⟨by omega, by omega⟩⟩

set_option maxRecDepth 100000 in
set_option maxHeartbeats 1000000 in
theorem twice_any {ts cs : Array Value} {h m s : Int} {n : Nat} {x : Nat → Int} (V : CalV cs h m s n x) {ah : Int} {a' : Option Addr} {n' c' : Nat} (T : Town ts cs ah a' n' c') {M : List (Int × Int)} {w : World} (B : TownArg w a' n' c' M) (n6 : n' ≤ 6) (hM : D.townOk (D.beg h m s x n) ah M = true) :
    Calls Try.prog 33 #[.agg ts] w fun e w' => e = .returned (.int .i64 (D.twiceV h m s x n ah M)) ∧ Up w w' := by
  have h1 := V.h1
  have h2 := V.h2
  have m1 := V.m1
  have m2 := V.m2
  have s1 := V.s1
  have s2 := V.s2
  have dd1 := V.d1
  have dd2 := V.d2
  have tb := D.beg_bd h m s x h1 h2 m1 m2 s1 s2 n
  have tw : wrap64 (D.tot (D.lens h m s x n)) = D.beg h m s x n := by
    have e : D.tot (D.lens h m s x n) = D.beg h m s x n := rfl
    rw [e, ← iw, IntWalk.i64_in _ (by omega)]
  have KT : ∀ w, Calls Try.prog 23 #[.agg cs] w fun e w' => e = .returned (.int .i64 (D.beg h m s x n)) ∧ Up w w' := fun w => by
    have := total_any V.cal w h1 h2 m1 m2 s1 s2 dd2
    rw [tw] at this
    exact this
  have hl := B.len
  have hM' : D.incr (fun t => inB t 0 (D.beg h m s x n - 1)) 0 (M.map (·.1)) = true := by
    simp only [D.townOk, Bool.and_eq_true] at hM
    exact hM.2.2.2
  have ord := D.pers_in (T := D.beg h m s x n) (p := fun t => inB t 0 (D.beg h m s x n - 1)) (fun t ht => by have := inB_iff.1 ht; omega) M 0 ah (by omega) hM'
  obtain ⟨X, hX⟩ : ∃ X, X = D.perX (D.beg h m s x n) ah M := ⟨_, rfl⟩
  obtain ⟨L, hL⟩ : ∃ L : Nat → List Int, L = fun i => D.perL h m s x n (X (i * 3)) (X (i * 3 + 1)) := ⟨_, rfl⟩
  obtain ⟨st, hst⟩ : ∃ st : Nat → Nat → Int, st = fun i k => (L i).getD k (X (i * 3 + 1)) := ⟨_, rfl⟩
  have ord' : ∀ i, i < n' + 1 → 0 ≤ X (i * 3) ∧ X (i * 3) ≤ X (i * 3 + 1) ∧ X (i * 3 + 1) ≤ D.beg h m s x n := fun i hi => by rw [hX]; exact ord i (by omega)
  have sb : ∀ i, i < n' + 1 → ∀ t, X (i * 3) ≤ t → t < X (i * 3 + 1) → 1 ≤ D.step h m s x n (X (i * 3 + 1)) t ∧ D.step h m s x n (X (i * 3 + 1)) t ≤ 61 ∧ t + D.step h m s x n (X (i * 3 + 1)) t ≤ X (i * 3 + 1) := fun i hi t t1 t2 => by
    obtain ⟨o1, o2, o3⟩ := ord' i hi
    exact D.step_bd h1 m1 s1 s2 (by omega) t2 (by omega)
  have way : ∀ i, i < n' + 1 → (L i).getD 0 (X (i * 3 + 1)) = X (i * 3) ∧ ∀ j, j < (L i).length → X (i * 3) ≤ (L i).getD j (X (i * 3 + 1)) ∧ (L i).getD j (X (i * 3 + 1)) < X (i * 3 + 1) ∧ (L i).getD (j + 1) (X (i * 3 + 1)) = (L i).getD j (X (i * 3 + 1)) + D.step h m s x n (X (i * 3 + 1)) ((L i).getD j (X (i * 3 + 1))) := fun i hi => by
    obtain ⟨o1, o2, o3⟩ := ord' i hi
    rw [hL]
    exact D.mins_is (fun t t1 t2 => ⟨(sb i hi t t1 t2).1, (sb i hi t t1 t2).2.2⟩) _ _ (Int.le_refl _) o2 (by omega)
  have bd : ∀ i, i < n' + 1 → ∀ k, k < (L i).length → 0 ≤ st i k ∧ st i k < X (i * 3 + 1) ∧ st i k < D.beg h m s x n := fun i hi k hk => by
    obtain ⟨o1, o2, o3⟩ := ord' i hi
    obtain ⟨w1, w2⟩ := way i hi
    obtain ⟨v1, v2, v3⟩ := w2 k hk
    rw [hst]
    exact ⟨by show 0 ≤ (L i).getD k _; omega, v2, by show (L i).getD k _ < _; omega⟩
  have lenb : ∀ (g : Int → Int) (u : Int) (k : Nat) (t : Int), (D.mins g u k t).length ≤ k := by
    intro g u k
    induction k with
    | zero => intro t; simp [D.mins]
    | succ k ih => intro t; unfold D.mins; split <;> simp; exact ih _
  have K := twice_list T.sz T.cal V.cal.size (n' + 1) (by omega) X w
    (fun w0 u0 => (periods_any T KT (B.up u0) n6).mono (by
      rintro e w' ⟨g, cap, rfl, u, g1, g2, hc⟩
      refine ⟨g, cap, rfl, u, g1, g2, fun j hj => ?_⟩
      rw [hc j hj, List.getElem?_map, hX, D.perX, List.getD_eq_getElem?_getD, List.getElem?_eq_getElem (by rw [D.pers_len]; omega)]
      rfl))
    (fun i => if i < n' + 1 then (L i).length else 0) st (fun i k => if i < n' + 1 ∧ k < (L i).length then D.step h m s x n (X (i * 3 + 1)) (st i k) else 1) (fun i k => D.rA h m s x n (st i k)) (fun i k => D.rB h m s x n (st i k)) (fun i k => D.rC h m s x n (st i k)) (fun i k => if i < n' + 1 ∧ k < (L i).length then D.rS h m s x n (st i k) else 0)
    (fun i k => if i < n' + 1 ∧ k < (L i).length then D.mlen h m s x (D.rA h m s x n (st i k)) (D.rB h m s x n (st i k)) (D.rC h m s x n (st i k)) else 0)
    (fun i hi => by
      simp only [hi, if_true, true_and]
      obtain ⟨o1, o2, o3⟩ := ord' i hi
      obtain ⟨w1, w2⟩ := way i hi
      refine ⟨by rw [hst]; exact w1, ?_, by omega, fun k hk => (bd i hi k hk).1, fun k hk => (bd i hi k hk).2.1, fun k hk => ?_, fun k hk => ?_, fun k hk => ?_, fun k hk => ?_⟩
      · rw [hst]
        simp
      · rw [if_pos hk, hst]; exact (w2 k hk).2.2
      · rw [if_pos hk]; rw [hst]; exact (sb i hi _ (w2 k hk).1 (w2 k hk).2.1).1
      · rw [if_pos hk, if_pos hk, if_pos hk]; rfl
      · rw [if_pos hk, if_pos hk]
        have q1 := D.rS_bd h1 m1 s1 (bd i hi k hk).1 (bd i hi k hk).2.2
        have q2 := D.mlen_bd h m s x (D.rA h m s x n (st i k)) (D.rB h m s x n (st i k)) (D.rC h m s x n (st i k)) s1 s2
        omega)
    (fun i => by
      split
      · rename_i hi
        obtain ⟨o1, o2, o3⟩ := ord' i hi
        have := lenb (D.step h m s x n (X (i * 3 + 1))) (X (i * 3 + 1)) (X (i * 3 + 1) - X (i * 3)).toNat (X (i * 3))
        rw [hL]
        show (D.perL h m s x n (X (i * 3)) (X (i * 3 + 1))).length ≤ _
        unfold D.perL
        omega
      · omega)
    (fun i k => by
      split
      · rename_i hk
        have q0 := bd i hk.1 k hk.2
        have q1 := D.rS_bd h1 m1 s1 q0.1 q0.2.2
        have q2 := D.mlen_bd h m s x (D.rA h m s x n (st i k)) (D.rB h m s x n (st i k)) (D.rC h m s x n (st i k)) s1 s2
        have w2 := (way i hk.1).2 k hk.2
        have q3 := sb i hk.1 (st i k) (by rw [hst]; exact w2.1) q0.2.1
        omega
      · omega)
    (fun i k w hi hk => by
      rw [if_pos hi] at hk
      rw [if_pos ⟨hi, hk⟩]
      exact reading_rd V _ w (bd i hi k hk).1 (bd i hi k hk).2.2)
    (fun i k w hi hk => by
      rw [if_pos hi] at hk
      rw [if_pos ⟨hi, hk⟩, if_pos ⟨hi, hk⟩]
      obtain ⟨d1, _⟩ := D.dy_is h m s x (st i k) (bd i hi k hk).1 n (bd i hi k hk).2.2
      exact minuteLength_any V.cal _ _ _ _ w (by simp [D.rA]) (by simp only [D.rA]; omega) h1 h2 m1 m2 s1 s2)
    (fun a b c k => D.lmin h m a b c k / (h * m)) (fun a b c k => D.lmin h m a b c k % (h * m) / m) (fun a b c k => D.lmin h m a b c k % (h * m) % m)
    (fun a b c q k w => local_any V.cal T a b c q k w h1 h2 m1 m2)
    (fun a b c k => D.lmin_parts h1 h2 m1 m2 _ (D.lmin_bd h m a b c k).1 (D.lmin_bd h m a b c k).2)
  have E : ∀ i, i ≤ n' + 1 → D.twS (n' + 1) (fun i => if i < n' + 1 then (L i).length else 0) (fun i k => D.rA h m s x n (st i k)) (fun i k => D.rB h m s x n (st i k)) (fun i k => D.rC h m s x n (st i k)) (fun i k => if i < n' + 1 ∧ k < (L i).length then D.rS h m s x n (st i k) else 0) (fun i k => if i < n' + 1 ∧ k < (L i).length then D.step h m s x n (X (i * 3 + 1)) (st i k) else 1)
      (fun a b c k => D.lmin h m a b c k / (h * m)) (fun a b c k => D.lmin h m a b c k % (h * m) / m) (fun a b c k => D.lmin h m a b c k % (h * m) % m) X i = D.twV h m s x n X i := by
    intro i
    induction i with
    | zero => intro _; rfl
    | succ i ih =>
      intro hi
      have hi' : i < n' + 1 := by omega
      rw [D.twS, ih (by omega), D.twV, if_pos hi', D.twP, ← D.foldl_range _ (X (i * 3 + 1))]
      have eL : D.perL h m s x n (X (i * 3)) (X (i * 3 + 1)) = L i := by rw [hL]
      rw [eL]
      refine D.foldl_cong _ _ _ (fun v k hk => ?_) _
      rw [if_pos ⟨hi', hk⟩, if_pos ⟨hi', hk⟩, hst]
      rfl
  rw [E (n' + 1) (Nat.le_refl _)] at K
  unfold D.twiceV
  rw [← hX, ← hl]
  exact K

set_option maxRecDepth 100000 in
set_option maxHeartbeats 2000000 in
theorem Twice_no {h m s d : Int} {a : Option Addr} {n c : Nat} {L : List (Int × Bool)} {ah : Int} {a' : Option Addr} {n' c' : Nat} {M : List (Int × Int)} {w : World} (A : CalArg w a n c L) (B : TownArg w a' n' c' M) (he : ¬ D.townE h m s d L ah M = 0) :
    Calls Try.prog 14 #[.agg #[.int .i64 h, .int .i64 m, .int .i64 s, .int .i64 d, .slice a n c], .agg #[.int .i64 ah, .slice a' n' c']] w fun e w' => e = .returned (.tuple #[.int .i64 0, .int .i64 (D.townE h m s d L ah M)]) ∧ Up w w' := by
  obtain ⟨ts, ho, K⟩ := newTown_e (ah := ah) (d := d) (h := h) (m := m) (s := s) (c := c) (c' := c') (A.up (((Up.refl w).alloc (.cells #[.int .i64 h, .int .i64 m, .int .i64 s, .int .i64 d, .slice a n c] 24)).alloc (.cells #[.int .i64 ah, .slice a' n' c'] 44))) (B.up (((Up.refl w).alloc (.cells #[.int .i64 h, .int .i64 m, .int .i64 s, .int .i64 d, .slice a n c] 24)).alloc (.cells #[.int .i64 ah, .slice a' n' c'] 44)))
  have HK := Lib.hid K
  generalize D.townE h m s d L ah M = E at *
  have hE : (E != 0) = true := by simp [he]
  clear K he
  go_enter Try.func14, Try.ntmps14
  go_wp2_with fail
  refine HK.out.mono ?_
  rintro e w1 ⟨rfl, u1⟩
  have U1 := (((Up.refl w).alloc _).alloc _).trans u1
  clear u1
  go_wp2
  go_ret2
  exact ⟨rfl, U1.alloc _⟩

set_option maxRecDepth 100000 in
set_option maxHeartbeats 2000000 in
theorem Twice_yes {h m s d : Int} {a : Option Addr} {n c : Nat} {L : List (Int × Bool)} {ah : Int} {a' : Option Addr} {n' c' : Nat} {M : List (Int × Int)} {w : World} (A : CalArg w a n c L) (B : TownArg w a' n' c' M) (hv : D.valid h m s d L = true) (ht : D.townOk (D.beg h m s (D.deeds L L.length) d.toNat) ah M = true) :
    Calls Try.prog 14 #[.agg #[.int .i64 h, .int .i64 m, .int .i64 s, .int .i64 d, .slice a n c], .agg #[.int .i64 ah, .slice a' n' c']] w fun e w' => e = .returned (.tuple #[.int .i64 (D.twiceV h m s (D.deeds L L.length) d.toNat ah M), .int .i64 0]) ∧ Up w w' := by
  obtain ⟨cs, N, rfl, V, K⟩ := newTown_ok (A.up (((Up.refl w).alloc (.cells #[.int .i64 h, .int .i64 m, .int .i64 s, .int .i64 d, .slice a n c] 24)).alloc (.cells #[.int .i64 ah, .slice a' n' c'] 44))) (B.up (((Up.refl w).alloc (.cells #[.int .i64 h, .int .i64 m, .int .i64 s, .int .i64 d, .slice a n c] 24)).alloc (.cells #[.int .i64 ah, .slice a' n' c'] 44))) hv ht
  have HK := Lib.hid K
  have T := Town.is cs V.cal.size ah a' n' c'
  have ho := twn_ok V ah a' n' c'
  have n6 : n' ≤ 6 := by
    have hl := B.len
    simp only [D.townOk, Bool.and_eq_true, decide_eq_true_eq] at ht
    omega
  rw [Int.toNat_natCast] at ht ⊢
  have HT := Lib.hid (fun w' (u : Up w w') => twice_any V T (B.up u) n6 ht)
  generalize twn cs ah a' n' c' = ts at *
  have hz := Lib.hid T.sz
  have hT := T.cal
  clear K hv ht T
  go_enter Try.func14, Try.ntmps14
  go_wp2_with fail
  refine HK.out.mono ?_
  rintro e w1 ⟨rfl, u1⟩
  have U1 := (((Up.refl w).alloc _).alloc _).trans u1
  clear u1
  go_wp2_with fail
  refine (HT.out _ (U1.alloc _)).mono ?_
  rintro e w2 ⟨rfl, u2⟩
  have U2 := (U1.alloc _).trans u2
  clear u2 HT HK
  go_wp2
  go_ret2
  exact ⟨rfl, U2⟩

end Go.Proofs.Ytghelfbigbdkkaa
