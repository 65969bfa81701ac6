import Derived.Test.YtlpkheoljbdajaaItr
import Derived.Sort.LoopGhostIn
/- The contract of newKnown. -/
namespace Go.Proofs.Ytlpkheoljbdajaa
open Go.RowKit Go.Shelf
attribute [local go_sem] Oper.semAt_some

theorem cell_known {w : World} {b : Nat} {cs : Array Value} (h : mblk w b = some (.cells cs 139 (0, 0))) (j : Nat) : w.cell? ⟨b, j, none⟩ = cs[j]? := cellB h j
theorem cell_kind {w : World} {b : Nat} {cs : Array Value} (h : mblk w b = some (.cells cs 133 (0, 0))) (j : Nat) : w.cell? ⟨b, j, none⟩ = cs[j]? := cellB h j
attribute [go_sem] cell_known cell_kind
/-- what is known of ties -/
def T.lrnAll (K : T.Kn) (ts : List T.T4) : T.Kn := ts.foldl (fun K t => T.lrn K t.1 t.2) K
theorem T.lrnAll_snoc (K : T.Kn) (ts : List T.T4) (t : T.T4) : T.lrnAll K (ts ++ [t]) = T.lrn (T.lrnAll K ts) t.1 t.2 := by
  unfold T.lrnAll
  rw [List.foldl_append]
  rfl
/-- a tie of things that there are, whose span goes not too far -/
def T.Ft (t : T.T4) : Prop := (0 ≤ t.1.1 ∧ t.1.1 ≤ 16) ∧ (0 ≤ t.1.2 ∧ t.1.2 ≤ 16) ∧ T.Bs 200000 t.2
theorem T.lrnAll_B {K : T.Kn} (h : T.Bd 200000 K) : ∀ {ts : List T.T4}, (∀ t ∈ ts, T.Ft t) → T.Bd 200000 (T.lrnAll K ts) := fun {ts} hts => by
  induction ts generalizing K with
  | nil => exact h
  | cons t ts ih => exact ih (T.lrn_B h (hts t List.mem_cons_self).2.2) fun u hu => hts u (List.mem_cons_of_mem _ hu)
/-- what is known of some ties, in memory -/
def T.KK (w : World) (m : Nat) (L : List T.T4) : Prop := T.Inn w m (2 * L.length) (T.lrnAll (fun _ => none) L)
theorem T.KK.up {w w' : World} {m : Nat} {L : List T.T4} (h : T.KK w m L) (u : Up w w') : T.KK w' m L := T.Inn.up h u
theorem T.KK.lt {w : World} {m : Nat} {L : List T.T4} (h : T.KK w m L) : m < w.heap.size := T.Inn.lt h
theorem T.KK.same {w w' : World} {m : Nat} {L : List T.T4} (h : T.KK w m L) (e : w'.heap[m]? = w.heap[m]?) : T.KK w' m L := T.Inn.same h e
theorem T.KK.map {w : World} {m : Nat} {L : List T.T4} (h : T.KK w m L) : ∃ es ck, w.heap[m]? = some (.map es ck) := by
  obtain ⟨M, ⟨es, ck, hh, _⟩, _⟩ := h
  exact ⟨es, ck, hh⟩
theorem learnBoth_kk {w : World} {m : Nat} {L : List T.T4} (h : T.KK w m L) (hL : L.length < 40000) (hf : ∀ t ∈ L, T.Ft t) {t : T.T4} (ht : T.Ft t) :
    Calls Try.prog 114 #[.map (some m), T.tv t] w fun e w' => e = .returned (.tuple #[]) ∧ T.KK w' m (L ++ [t]) ∧ w.grownBy w' (some m) := by
  obtain ⟨⟨h1, h2⟩, ⟨h3, h4⟩, hb⟩ := ht
  refine (learnBoth_any (x := t.1) (s := t.2) h (by omega) ⟨⟨by omega, by omega⟩, by omega, by omega⟩ ((T.lrnAll_B (T.bd_none _) hf).mono (by omega)) ⟨⟨by have := hb.1.1; omega, by have := hb.1.2; omega⟩, by have := hb.2.1; omega, by have := hb.2.2; omega⟩).mono ?_
  rintro e w' ⟨he, hi, hg⟩
  refine ⟨he, ?_, hg⟩
  unfold T.KK
  rw [T.lrnAll_snoc, List.length_append, List.length_singleton]
  exact hi
/-- the ties of a book: so many kinds; so many nights -/
def T.stg (N : Nat) (bl bh rl rh : Int) (ps qs : List (Int × Int)) : Nat → List T.T4
  | 0 => []
  | 1 => T.errs ps
  | 2 => T.errs ps ++ T.dels qs
  | _ => (T.errs ps ++ T.dels qs) ++ T.offs N bl bh rl rh
def T.saidAt (ls : List T.T5) (o : Nat → Bool) (n : Nat) : List T.T4 := (T.lof ls o n).map T.say
def T.saidTo (ls : List T.T5) (o : Nat → Bool) (n : Nat) : List T.T4 := (List.range n).flatMap (T.saidAt ls o)
theorem T.saidTo_succ {ls : List T.T5} {o : Nat → Bool} {n : Nat} : T.saidTo ls o (n + 1) = T.saidTo ls o n ++ T.saidAt ls o n := by
  unfold T.saidTo
  rw [List.range_succ, List.flatMap_append]
  simp
def T.ties (N : Nat) (bl bh rl rh : Int) (ps qs : List (Int × Int)) (ls : List T.T5) (o : Nat → Bool) : List T.T4 := T.stg N bl bh rl rh ps qs 3 ++ T.saidTo ls o N
/-- a book whose numbers are as they have to be -/
structure T.Bok (N : Nat) (bl bh rl rh : Int) (ps qs : List (Int × Int)) (ls : List T.T5) : Prop where
  n1 : 1 ≤ N
  n8 : N ≤ 8
  beg : T.Bs 20000 (bl, bh)
  rat : T.Bs 1000 (rl, rh)
  p4 : ps.length ≤ 4
  q4 : qs.length ≤ 4
  per : ∀ s ∈ ps, T.Bs 10000 s
  pth : ∀ s ∈ qs, T.Bs 10000 s
  l10 : ls.length ≤ 10
  look : ∀ x ∈ ls, (0 ≤ x.1 ∧ x.1 < N) ∧ (x.2.1 = 0 ∨ x.2.1 = 1) ∧ (0 ≤ x.2.2.1 ∧ x.2.2.1 < 4) ∧ (-30000 ≤ x.2.2.2.1 ∧ x.2.2.2.1 ≤ 30000) ∧ (0 ≤ x.2.2.2.2 ∧ x.2.2.2.2 ≤ 2000)
section
variable {N : Nat} {bl bh rl rh : Int} {ps qs : List (Int × Int)} {ls : List T.T5} {o : Nat → Bool}
theorem T.mem_rng {α : Type} {f : Nat → α} {n : Nat} {x : α} (h : x ∈ T.rng f n) : ∃ k, k < n ∧ x = f k := by
  unfold T.rng at h
  obtain ⟨k, hk, e⟩ := List.mem_map.1 h
  exact ⟨k, List.mem_range.1 hk, e.symm⟩
theorem T.getD_mem {α : Type} {xs : List α} {d : α} {k : Nat} (h : k < xs.length) : xs.getD k d ∈ xs := by
  rw [List.getD_eq_getElem?_getD, List.getElem?_eq_getElem h]
  exact List.getElem_mem h
theorem T.Bok.errs (b : T.Bok N bl bh rl rh ps qs ls) : ∀ t ∈ T.errs ps, T.Ft t := fun t ht => by
  obtain ⟨k, hk, rfl⟩ := T.mem_rng ht
  have := b.per _ (T.getD_mem (d := (0, 0)) hk)
  have := b.p4
  obtain ⟨⟨h1, h2⟩, h3, h4⟩ := b.per _ (T.getD_mem (d := (0, 0)) hk)
  refine ⟨⟨by show 0 ≤ 9 + (k : Int); omega, by show 9 + (k : Int) ≤ 16; omega⟩, ⟨by show (0 : Int) ≤ 0; omega, by show (0 : Int) ≤ 16; omega⟩, ⟨⟨?_, ?_⟩, ?_, ?_⟩⟩
  · show -200000 ≤ -(ps.getD k (0, 0)).2; omega
  · show -(ps.getD k (0, 0)).2 ≤ 200000; omega
  · show -200000 ≤ -(ps.getD k (0, 0)).1; omega
  · show -(ps.getD k (0, 0)).1 ≤ 200000; omega
theorem T.Bok.dels (b : T.Bok N bl bh rl rh ps qs ls) : ∀ t ∈ T.dels qs, T.Ft t := fun t ht => by
  obtain ⟨k, hk, rfl⟩ := T.mem_rng ht
  have := b.q4
  obtain ⟨⟨h1, h2⟩, h3, h4⟩ := b.pth _ (T.getD_mem (d := (0, 0)) hk)
  refine ⟨⟨by show 0 ≤ 13 + (k : Int); omega, by show 13 + (k : Int) ≤ 16; omega⟩, ⟨by show (0 : Int) ≤ 0; omega, by show (0 : Int) ≤ 16; omega⟩, ⟨⟨?_, ?_⟩, ?_, ?_⟩⟩
  · show -200000 ≤ (qs.getD k (0, 0)).1; omega
  · show (qs.getD k (0, 0)).1 ≤ 200000; omega
  · show -200000 ≤ (qs.getD k (0, 0)).2; omega
  · show (qs.getD k (0, 0)).2 ≤ 200000; omega
theorem T.Bok.offs (b : T.Bok N bl bh rl rh ps qs ls) : ∀ t ∈ T.offs N bl bh rl rh, T.Ft t := fun t ht => by
  have := b.n1
  have := b.n8
  obtain ⟨⟨h1, h2⟩, h3, h4⟩ := b.beg
  obtain ⟨⟨g1, g2⟩, g3, g4⟩ := b.rat
  simp only at h1 h2 h3 h4 g1 g2 g3 g4
  rcases List.mem_cons.1 ht with rfl | ht
  · exact ⟨⟨by show (0 : Int) ≤ 1; omega, by show (1 : Int) ≤ 16; omega⟩, ⟨by show (0 : Int) ≤ 0; omega, by show (0 : Int) ≤ 16; omega⟩, ⟨⟨by show -200000 ≤ bl; omega, by show bl ≤ 200000; omega⟩, by show -200000 ≤ bh; omega, by show bh ≤ 200000; omega⟩⟩
  · obtain ⟨k, hk, rfl⟩ := T.mem_rng ht
    exact ⟨⟨by show 0 ≤ 1 + ((k : Int) + 1); omega, by show 1 + ((k : Int) + 1) ≤ 16; omega⟩, ⟨by show 0 ≤ 1 + (k : Int); omega, by show 1 + (k : Int) ≤ 16; omega⟩, ⟨⟨by show -200000 ≤ rl; omega, by show rl ≤ 200000; omega⟩, by show -200000 ≤ rh; omega, by show rh ≤ 200000; omega⟩⟩
theorem T.Bok.stg (b : T.Bok N bl bh rl rh ps qs ls) (i : Nat) : ∀ t ∈ T.stg N bl bh rl rh ps qs i, T.Ft t := fun t ht => by
  match i with
  | 0 => cases ht
  | 1 => exact b.errs t ht
  | 2 => exact (List.mem_append.1 ht).elim (b.errs t) (b.dels t)
  | n + 3 =>
    have ht' : t ∈ (T.errs ps ++ T.dels qs) ++ T.offs N bl bh rl rh := ht
    exact (List.mem_append.1 ht').elim (fun h => (List.mem_append.1 h).elim (b.errs t) (b.dels t)) (b.offs t)
theorem T.lof_mem {n : Int} {x : T.T5} (h : x ∈ T.lof ls o n) : x ∈ ls ∧ x.1 = n := by
  unfold T.lof T.lofTo at h
  obtain ⟨k, hk, rfl⟩ := List.mem_map.1 h
  obtain ⟨h1, h2⟩ := List.mem_filter.1 hk
  unfold T.isAt at h2
  rw [Bool.and_eq_true, beq_iff_eq] at h2
  exact ⟨T.getD_mem (List.mem_range.1 h1), h2.1⟩
theorem T.Bok.say (b : T.Bok N bl bh rl rh ps qs ls) {x : T.T5} (hx : x ∈ ls) : T.Ft (T.say x) := by
  obtain ⟨n, k, v, r, e⟩ := x
  obtain ⟨h1, h2, h3, h4, h5⟩ := b.look _ hx
  have := b.n8
  simp only at h1 h2 h3 h4 h5
  have hf : 9 ≤ T.fst k ∧ T.fst k ≤ 13 := by rcases h2 with rfl | rfl <;> exact ⟨by decide, by decide⟩
  exact ⟨⟨by show 0 ≤ 1 + n; omega, by show 1 + n ≤ 16; omega⟩, ⟨by show 0 ≤ T.fst k + v; omega, by show T.fst k + v ≤ 16; omega⟩, ⟨⟨by show -200000 ≤ r - e; omega, by show r - e ≤ 200000; omega⟩, by show -200000 ≤ r + e; omega, by show r + e ≤ 200000; omega⟩⟩
theorem T.Bok.saidAt (b : T.Bok N bl bh rl rh ps qs ls) {n : Nat} : ∀ t ∈ T.saidAt ls o n, T.Ft t := fun t ht => by
  obtain ⟨x, hx, rfl⟩ := List.mem_map.1 ht
  exact b.say (T.lof_mem hx).1
theorem T.Bok.saidTo (b : T.Bok N bl bh rl rh ps qs ls) {n : Nat} : ∀ t ∈ T.saidTo ls o n, T.Ft t := fun t ht => by
  obtain ⟨k, _, hk⟩ := List.mem_flatMap.1 ht
  exact b.saidAt t hk
theorem T.rng_len {α : Type} {f : Nat → α} {n : Nat} : (T.rng f n).length = n := by simp [T.rng]
theorem T.Bok.stg_len (b : T.Bok N bl bh rl rh ps qs ls) (i : Nat) : (T.stg N bl bh rl rh ps qs i).length ≤ 16 := by
  have := b.p4
  have := b.q4
  have := b.n8
  match i with
  | 0 => exact Nat.zero_le _
  | 1 => show (T.errs ps).length ≤ 16; unfold T.errs; rw [T.rng_len]; omega
  | 2 => show (T.errs ps ++ T.dels qs).length ≤ 16; unfold T.errs T.dels; rw [List.length_append, T.rng_len, T.rng_len]; omega
  | n + 3 => show ((T.errs ps ++ T.dels qs) ++ T.offs N bl bh rl rh).length ≤ 16; unfold T.errs T.dels T.offs; rw [List.length_append, List.length_append, List.length_cons, T.rng_len, T.rng_len, T.rng_len]; omega
theorem T.lof_len {n : Int} : (T.lof ls o n).length ≤ ls.length := by
  unfold T.lof T.lofTo
  rw [List.length_map]
  exact Nat.le_trans (List.length_filter_le _ _) (by rw [List.length_range]; exact Nat.le_refl _)
theorem T.saidTo_len (n : Nat) : (T.saidTo ls o n).length ≤ n * ls.length := by
  induction n with
  | zero => simp [T.saidTo]
  | succ n ih =>
    rw [T.saidTo_succ, List.length_append, Nat.succ_mul]
    have : (T.saidAt ls o n).length ≤ ls.length := by unfold T.saidAt; rw [List.length_map]; exact T.lof_len
    omega
end
section
variable {N : Nat} {bl bh rl rh : Int} {aP aQ aL : Option Addr} {nP cP nQ cQ nL cL : Nat} {o : Nat → Bool} {ps qs : List (Int × Int)} {ls : List T.T5}
set_option maxRecDepth 100000 in
set_option maxHeartbeats 4000000 in
theorem newKnown_any {w : World} (b : T.Bok N bl bh rl rh ps qs ls) (I : Sps w (.slice aP nP cP) ps) (J : Sps w (.slice aQ nQ cQ) qs) (K : Lks w (.slice aL nL cL) ls) :
    Calls Try.prog 90 #[BkV N bl bh rl rh (.slice aP nP cP) (.slice aQ nQ cQ) (.slice aL nL cL) o] w fun e w' => ∃ m, e = .returned (.map (some m)) ∧ T.KK w' m (T.ties N bl bh rl rh ps qs ls o) ∧ Up w w' := by
  have hmm := @run_makeMap Try.prog
  have HI := Lib.hid I
  have HJJ := Lib.hid J
  have HL := Lib.hid K
  have HBk := Lib.hid b
  have n1 := b.n1
  have n8 := b.n8
  clear I J K b
  refine (callsIn_wide (n := 5)).1 ?_
  refine callsIn_of_wp_marks Try.func90 rfl trivial ?_ rfl
  simp only [Try.ntmps90, List.size_toArray, List.length_cons, List.length_nil, Nat.reduceAdd, Nat.reduceSub, Array.replicate_succ, Array.replicate_zero, List.push_toArray, List.append_toArray, List.nil_append, List.cons_append]
  gi_wp2_with fail
  obtain ⟨W0, hW0⟩ : ∃ x, ((w.alloc (.cells (BkC N bl bh rl rh (.slice aP nP cP) (.slice aQ nQ cQ) (.slice aL nL cL) o) 81)).alloc (.map #[] 0)).alloc (.cells #[.map (some (w.heap.size + 1))] 139) = x := ⟨_, rfl⟩
  have u0 : Up w W0 := by rw [← hW0]; exact (((Up.refl w).alloc _).alloc _).alloc _
  have z0 : W0.heap.size = w.heap.size + 3 := by rw [← hW0]; simp
  have kc : mblk W0 w.heap.size = some (.cells (BkC N bl bh rl rh (.slice aP nP cP) (.slice aQ nQ cQ) (.slice aL nL cL) o) 81 (0, 0)) := by rw [← hW0]; exact blk_keep _ (blk_keep _ (blk_new w (.cells (BkC N bl bh rl rh (.slice aP nP cP) (.slice aQ nQ cQ) (.slice aL nL cL) o) 81) _ rfl))
  have kk : mblk W0 (w.heap.size + 1 + 1) = some (.cells #[.map (some (w.heap.size + 1))] 139 (0, 0)) := by rw [← hW0]; exact blk_new ((w.alloc (.cells (BkC N bl bh rl rh (.slice aP nP cP) (.slice aQ nQ cQ) (.slice aL nL cL) o) 81)).alloc (.map #[] 0)) (.cells #[.map (some (w.heap.size + 1))] 139) _ (by simp)
  have ko : T.KK W0 (w.heap.size + 1) (T.stg N bl bh rl rh ps qs 0) := by
    have q := T.Inn.made (w.alloc (.cells (BkC N bl bh rl rh (.slice aP nP cP) (.slice aQ nQ cQ) (.slice aL nL cL) o) 81))
    rw [World.size_alloc] at q
    rw [← hW0]
    exact T.Inn.up q ((Up.refl _).alloc _)
  rw [hW0]
  clear hW0
  refine ⟨trivial, (callsIn_wide.2 (kinds_any _)).mono ?_⟩
  rintro e w1 ⟨rfl, u1⟩
  have h2 := u1.blk kk
  have h3 := u1.blk kc
  have K1 := ko.up u1
  have h4 := u0.trans u1
  have z1 := u1.size
  clear kk kc ko u0 u1
  gi_wp2_with fail
  refine wpIn_loop_ghost_k (fun gk x wr => ∃ (u5 u12 u13 u14 u15 u16 u17 u22 : Value) (i : Int) (Ds : List Nat), 0 ≤ i ∧ i ≤ 3 ∧ gk = 3 - i.toNat ∧ x = { tmps := List.toArray ((BkV N bl bh rl rh (.slice aP nP cP) (.slice aQ nQ cQ) (.slice aL nL cL) o : Value) :: .pointer (some ⟨w.heap.size, 0, none⟩) :: .map none :: .pointer (some ⟨w.heap.size + 1 + 1, 0, none⟩) :: undef :: u5 :: undef :: undef :: undef :: .map (some (w.heap.size + 1)) :: KiV :: .int .i64 i :: u12 :: u13 :: u14 :: u15 :: u16 :: u17 :: undef :: undef :: undef :: undef :: u22 :: undef :: undef :: undef :: undef :: undef :: undef :: undef :: undef :: undef :: undef :: undef :: undef :: undef :: undef :: undef :: undef :: []), defers := Ds.map S.mark } ∧
        (Ds.Nodup ∧ ∀ d, d ∈ Ds → w1.heap.size ≤ d ∧ wr.heap[d]? = some (.deferred (some []))) ∧ mblk wr (w.heap.size + 1 + 1) = some (.cells #[.map (some (w.heap.size + 1))] 139 (0, 0)) ∧ mblk wr w.heap.size = some (.cells (BkC N bl bh rl rh (.slice aP nP cP) (.slice aQ nQ cQ) (.slice aL nL cL) o) 81 (0, 0)) ∧ T.KK wr (w.heap.size + 1) (T.stg N bl bh rl rh ps qs i.toNat) ∧ Up w wr ∧ w1.heap.size ≤ wr.heap.size) 3 ?start ?round
  case start => exact ⟨_, _, _, _, _, _, _, _, 0, [], by omega, by omega, rfl, rfl, ⟨by simp, fun d hm => by cases hm⟩, h2, h3, K1, h4, Nat.le_refl _⟩
  case round =>
    clear h2 h3 K1 h4
    rintro gk x wr ⟨u5, u12, u13, u14, u15, u16, u17, u22, i, Ds, hi0, hi4, rfl, rfl, ⟨hnd, hDs⟩, k2, k3, hKn, hU, hz⟩ J' K hJ' hK'
    have : i = 0 ∨ i = 1 ∨ i = 2 ∨ i = 3 := by omega
    rcases this with rfl | rfl | rfl | rfl
    · have HC := Lib.hid (fun w => errors_any (N := (N : Int)) (bl := bl) (bh := bh) (rl := rl) (rh := rh) (aP := aP) (aQ := aQ) (aL := aL) (nP := nP) (cP := cP) (nQ := nQ) (cQ := cQ) (nL := nL) (cL := cL) (o := o) w)
      have lc := blk_lt k3
      gi_wp2_with fail
      refine ⟨trivial, (callsIn_wide.2 (HC.out _)).mono ?_⟩
      rintro e w4 ⟨rfl, hw4⟩
      obtain ⟨Wh, hWh⟩ : ∃ x, wr.alloc (.cells #[.int .i64 9, .int .i64 (-1), .func (.func 105) #[] #[], .func (.func 106) #[] #[], .func (.func 107) #[] #[]] 133) = x := ⟨_, rfl⟩
      rw [hWh] at hw4
      have uh : Up wr Wh := by rw [← hWh]; exact (Up.refl wr).alloc _
      have zh : Wh.heap.size = wr.heap.size + 1 := by rw [← hWh]; simp
      have ks : mblk Wh wr.heap.size = some (.cells #[.int .i64 9, .int .i64 (-1), .func (.func 105) #[] #[], .func (.func 106) #[] #[], .func (.func 107) #[] #[]] 133 (0, 0)) := by rw [← hWh]; exact blk_new _ _ _ rfl
      have u4 : Up Wh w4 := by rw [← hw4]; exact (Up.refl Wh).alloc _
      have kb : mblk w4 (wr.heap.size + 1) = some (.cells (BkC N bl bh rl rh (.slice aP nP cP) (.slice aQ nQ cQ) (.slice aL nL cL) o) 81 (0, 0)) := by rw [← hw4, ← zh]; exact blk_new Wh (.cells (BkC N bl bh rl rh (.slice aP nP cP) (.slice aQ nQ cQ) (.slice aL nL cL) o) 81) _ rfl
      have z4a : wr.heap.size + 2 ≤ w4.heap.size := by rw [← hw4]; simp; omega
      have z4b : w4.heap.size ≤ wr.heap.size + 2 := by rw [← hw4]; simp; omega
      have uu := uh.trans u4
      have ks4 := u4.blk ks
      have k24 := uu.blk k2
      have k34 := uu.blk k3
      have hK4 := Lib.hid (show T.KK w4 (w.heap.size + 1) (T.stg N bl bh rl rh ps qs 0) from hKn.up uu)
      have hKlt := Lib.hid (show (w.heap.size + 1) < wr.heap.size ∧ w.heap.size + 3 ≤ wr.heap.size from ⟨hKn.lt, by have := blk_lt k2; omega⟩)
      have hU4 := hU.trans uu
      have HD := Lib.hid (show ∀ d, d ∈ Ds → w1.heap.size ≤ d ∧ d < wr.heap.size ∧ w4.heap[d]? = some (.deferred (some [])) from fun d hd => ⟨(hDs d hd).1, (Array.getElem?_eq_some_iff.1 (hDs d hd).2).1, (Below.block uu d (Array.getElem?_eq_some_iff.1 (hDs d hd).2).1).trans (hDs d hd).2⟩)
      have ZH := Lib.hid zh
      clear hw4 ks u4 k2 k3 hKn hU hDs uh uu zh HC lc
      gi_wp2_with fail
      rw [ZH.out]
      clear hWh
      refine T.rangeAll (p := fun b => b = (w.heap.size + 1) ∨ b = w4.heap.size + 1) rfl (enters_of Try.func123 (by kernel_rfl) rfl) (enc := fun x : T.T4 => #[T.tv x]) (fun _ => rfl)
        (errors_seq HI.out HBk.out.per HBk.out.p4 (T.Sm.of hU4) (fun b e => by have := hKlt.out; have := hU4.size; omega) (fun e => by have := hKlt.out; omega) kb) (.inr rfl) (fun e => by have := hKlt.out; omega) (fun b hb e => by have := hKlt.out; omega)
        (fun pre X => (T.KK X (w.heap.size + 1) (T.stg N bl bh rl rh ps qs 0 ++ pre) ∧ mblk X (w.heap.size + 1 + 1) = some (.cells #[.map (some (w.heap.size + 1))] 139 (0, 0)) ∧ mblk X w.heap.size = some (.cells (BkC N bl bh rl rh (.slice aP nP cP) (.slice aQ nQ cQ) (.slice aL nL cL) o) 81 (0, 0)) ∧ Up w X ∧ (∀ d, d ∈ Ds → X.heap[d]? = some (.deferred (some []))) ∧ w4.heap.size ≤ X.heap.size)) ?hI ⟨by simpa using hK4.out, k24, k34, hU4, fun d hd => (HD.out d hd).2.2, Nat.le_refl _⟩
        (fun (x : T.T4) af X => ∃ Bx, w4.heap.size + 2 ≤ Bx ∧ mblk X Bx = some (.cells (TiC x.1.1 x.1.2 x.2.1 x.2.2) 145 (0, 0)) ∧ af = { tmps := List.toArray ((BkV N bl bh rl rh (.slice aP nP cP) (.slice aQ nQ cQ) (.slice aL nL cL) o : Value) :: .pointer (some ⟨w.heap.size, 0, none⟩) :: .map none :: .pointer (some ⟨w.heap.size + 1 + 1, 0, none⟩) :: undef :: .pointer (some ⟨wr.heap.size, 0, none⟩) :: .pointer (some ⟨Bx, 0, none⟩) :: undef :: undef :: .map (some (w.heap.size + 1)) :: KiV :: .int .i64 0 :: .bool true :: .agg #[.int .i64 9, .int .i64 (-1), .func (.func 105) #[] #[], .func (.func 106) #[] #[], .func (.func 107) #[] #[]] :: .pointer (some ⟨wr.heap.size, 3, none⟩) :: .func (.func 106) #[] #[] :: BkV N bl bh rl rh (.slice aP nP cP) (.slice aQ nQ cQ) (.slice aL nL cL) o :: .func (.func 123) #[] #[.pointer (some ⟨wr.heap.size + 1, 0, none⟩)] :: T.tv x :: undef :: undef :: undef :: u22 :: undef :: undef :: undef :: undef :: undef :: undef :: undef :: undef :: undef :: undef :: undef :: undef :: undef :: undef :: undef :: undef :: []), defers := [] }) ?hAx ?assign ?body ?done
      case hI =>
        rintro pre X Y row ⟨h1, h2, h3, h5, h6, h7⟩ hg hr
        have kp : ∀ b, b < w4.heap.size → Y.heap[b]? = X.heap[b]? := fun b hb => hg.block b (by omega) (fun e => by have := (hr b e.symm).1; omega)
        have := hKlt.out
        have := hU4.size
        exact ⟨h1.same (kp _ (by omega)), (kp _ (by omega)).trans h2, (kp _ (by omega)).trans h3, h5.grown hg (fun r e => by have := (hr r e).1; omega), fun d hd => (kp d (by have := (HD.out d hd).2.1; omega)).trans (h6 d hd), Nat.le_trans h7 hg.size⟩
      case hAx =>
        rintro x af _ X Y row ⟨Bx, h1, h2, h3⟩ hg hr
        exact ⟨Bx, h1, (hg.block Bx (blk_lt h2) (fun e => by obtain ⟨_, o, ho, hc⟩ := hr Bx e.symm; rw [show X.heap[Bx]? = _ from h2] at ho; cases ho; simp [T.book] at hc)).trans h2, h3⟩
      case assign =>
        rintro pre x X K _ _ hX hK
        gi_wp2
        exact hK _ _ ((Up.refl X).alloc _) ⟨X.heap.size, hX, blk_new _ _ _ rfl, rfl⟩
      case body =>
        rintro pre x af X hpre ⟨h1, h2, h3, h5, h6, h7⟩ ⟨Bx, x1, x2, rfl⟩ hzX ⟨r, hr⟩
        have hmem : x ∈ T.errs ps := by
          obtain ⟨t, ht⟩ := hpre
          rw [← ht]; simp
        have hpm : ∀ t ∈ pre, t ∈ T.errs ps := fun t ht => by
          obtain ⟨t', ht'⟩ := hpre
          rw [← ht']; simp [ht]
        have hlen := T.pre_lt hpre
        have hfit := HBk.out.errs x hmem
        have hst := HBk.out.stg_len 0
        have hll := HBk.out.stg_len 1
        have hfa : ∀ t ∈ T.stg N bl bh rl rh ps qs 0 ++ pre, T.Ft t := fun t ht => (List.mem_append.1 ht).elim (HBk.out.stg 0 t) (fun h => HBk.out.errs t (hpm t h))
        have hln : (T.stg N bl bh rl rh ps qs 0 ++ pre).length < 40000 := by
          have q : (T.errs ps).length ≤ 16 := by
            have e : T.stg N bl bh rl rh ps qs 1 = T.stg N bl bh rl rh ps qs 0 ++ T.errs ps := by first | rfl | exact (List.nil_append _).symm
            rw [e, List.length_append] at hll
            omega
          rw [List.length_append]
          omega
        have HLB := Lib.hid (learnBoth_kk h1 hln hfa hfit)
        clear hfit hst hll hfa hln hmem hpm
        have ltB := blk_lt x2
        have lb2 := blk_lt h2
        have lb3 := blk_lt h3
        have HFIN := Lib.hid (show ∀ X2 X3, Up X X2 → T.KK X3 (w.heap.size + 1) ((T.stg N bl bh rl rh ps qs 0 ++ pre) ++ [x]) → X2.grownBy X3 (some (w.heap.size + 1)) → (∀ (b : Nat) (o : Obj), X.heap[b]? = some o → ¬ ((b = (w.heap.size + 1) ∨ b = w4.heap.size + 1) ∧ b ≠ w4.heap.size + 1) → X3.heap[b]? = some o) ∧ X.heap.size ≤ X3.heap.size ∧ (T.KK X3 (w.heap.size + 1) (T.stg N bl bh rl rh ps qs 0 ++ (pre ++ [x])) ∧ mblk X3 (w.heap.size + 1 + 1) = some (.cells #[.map (some (w.heap.size + 1))] 139 (0, 0)) ∧ mblk X3 w.heap.size = some (.cells (BkC N bl bh rl rh (.slice aP nP cP) (.slice aQ nQ cQ) (.slice aL nL cL) o) 81 (0, 0)) ∧ Up w X3 ∧ (∀ d, d ∈ Ds → X3.heap[d]? = some (.deferred (some []))) ∧ w4.heap.size ≤ X3.heap.size) from fun X2 X3 u2 k3 q3 => by
          have := hKlt.out
          have key : ∀ b o, X.heap[b]? = some o → b ≠ (w.heap.size + 1) → X3.heap[b]? = some o := fun b o hb e1 => by
            have l := (Array.getElem?_eq_some_iff.1 hb).1
            have a2 := (Below.block u2 b l).trans hb
            exact (q3.block b (Array.getElem?_eq_some_iff.1 a2).1 (fun e => e1 (Option.some.inj e))).trans a2
          have s2 := u2.size
          have s3 := q3.size
          refine ⟨fun b o hb hnp => key b o hb (fun e => hnp ⟨.inl e, by omega⟩), by omega, by rw [List.append_assoc] at k3; exact k3, key _ _ h2 (by omega), key _ _ h3 (by omega), (h5.trans u2).grown q3 (fun k e => by have := Option.some.inj e; omega), fun d hd => key _ _ (h6 d hd) (fun e => ?_), by omega⟩
          obtain ⟨es, ck, hh⟩ := h1.map
          have q := h6 d hd
          rw [e, hh] at q
          cases q)
        clear h1 hpre hlen
        gi_wp2_with fail
        refine ⟨trivial, (CallsIn.inRound _ (callsIn_wide.2 HLB.out)).mono ?_⟩
        rintro e X3 ⟨rfl, K3, q3⟩
        have HK3 := Lib.hid K3
        have HQ3 := Lib.hid q3
        clear K3 q3 HLB
        gi_wp2
        exact HFIN.out _ _ (Up.refl _) HK3.out HQ3.out
      case done =>
        rintro X ⟨h1, h2, h3, h5, h6, h7⟩ hzX hd
        gi_wp2
        refine Handed.intro (3 - (0 + 1)) (by omega) (hJ' _ _ _ ?_)
        refine ⟨_, _, _, _, _, _, _, _, 1, w4.heap.size :: Ds, by omega, by omega, rfl, rfl, ⟨List.nodup_cons.2 ⟨fun hm => ?_, hnd⟩, fun e he => ?_⟩, h2, h3, ?_, h5, by omega⟩
        · have := (HD.out _ hm).2.1; omega
        · rcases List.mem_cons.1 he with rfl | he
          · exact ⟨by omega, hd⟩
          · exact ⟨(HD.out e he).1, h6 e he⟩
        · have e : T.stg N bl bh rl rh ps qs 1 = T.stg N bl bh rl rh ps qs 0 ++ T.errs ps := by first | rfl | exact (List.nil_append _).symm
          show T.KK X (w.heap.size + 1) (T.stg N bl bh rl rh ps qs 1)
          rw [e]; exact h1
    · have HC := Lib.hid (fun w => delays_any (N := (N : Int)) (bl := bl) (bh := bh) (rl := rl) (rh := rh) (aP := aP) (aQ := aQ) (aL := aL) (nP := nP) (cP := cP) (nQ := nQ) (cQ := cQ) (nL := nL) (cL := cL) (o := o) w)
      have lc := blk_lt k3
      gi_wp2_with fail
      refine ⟨trivial, (callsIn_wide.2 (HC.out _)).mono ?_⟩
      rintro e w4 ⟨rfl, hw4⟩
      obtain ⟨Wh, hWh⟩ : ∃ x, wr.alloc (.cells #[.int .i64 13, .int .i64 1, .func (.func 108) #[] #[], .func (.func 109) #[] #[], .func (.func 110) #[] #[]] 133) = x := ⟨_, rfl⟩
      rw [hWh] at hw4
      have uh : Up wr Wh := by rw [← hWh]; exact (Up.refl wr).alloc _
      have zh : Wh.heap.size = wr.heap.size + 1 := by rw [← hWh]; simp
      have ks : mblk Wh wr.heap.size = some (.cells #[.int .i64 13, .int .i64 1, .func (.func 108) #[] #[], .func (.func 109) #[] #[], .func (.func 110) #[] #[]] 133 (0, 0)) := by rw [← hWh]; exact blk_new _ _ _ rfl
      have u4 : Up Wh w4 := by rw [← hw4]; exact (Up.refl Wh).alloc _
      have kb : mblk w4 (wr.heap.size + 1) = some (.cells (BkC N bl bh rl rh (.slice aP nP cP) (.slice aQ nQ cQ) (.slice aL nL cL) o) 81 (0, 0)) := by rw [← hw4, ← zh]; exact blk_new Wh (.cells (BkC N bl bh rl rh (.slice aP nP cP) (.slice aQ nQ cQ) (.slice aL nL cL) o) 81) _ rfl
      have z4a : wr.heap.size + 2 ≤ w4.heap.size := by rw [← hw4]; simp; omega
      have z4b : w4.heap.size ≤ wr.heap.size + 2 := by rw [← hw4]; simp; omega
      have uu := uh.trans u4
      have ks4 := u4.blk ks
      have k24 := uu.blk k2
      have k34 := uu.blk k3
      have hK4 := Lib.hid (show T.KK w4 (w.heap.size + 1) (T.stg N bl bh rl rh ps qs 1) from hKn.up uu)
      have hKlt := Lib.hid (show (w.heap.size + 1) < wr.heap.size ∧ w.heap.size + 3 ≤ wr.heap.size from ⟨hKn.lt, by have := blk_lt k2; omega⟩)
      have hU4 := hU.trans uu
      have HD := Lib.hid (show ∀ d, d ∈ Ds → w1.heap.size ≤ d ∧ d < wr.heap.size ∧ w4.heap[d]? = some (.deferred (some [])) from fun d hd => ⟨(hDs d hd).1, (Array.getElem?_eq_some_iff.1 (hDs d hd).2).1, (Below.block uu d (Array.getElem?_eq_some_iff.1 (hDs d hd).2).1).trans (hDs d hd).2⟩)
      have ZH := Lib.hid zh
      clear hw4 ks u4 k2 k3 hKn hU hDs uh uu zh HC lc
      gi_wp2_with fail
      rw [ZH.out]
      clear hWh
      refine T.rangeAll (p := fun b => b = (w.heap.size + 1) ∨ b = w4.heap.size + 1) rfl (enters_of Try.func125 (by kernel_rfl) rfl) (enc := fun x : T.T4 => #[T.tv x]) (fun _ => rfl)
        (delays_seq HJJ.out HBk.out.pth HBk.out.q4 (T.Sm.of hU4) (fun b e => by have := hKlt.out; have := hU4.size; omega) (fun e => by have := hKlt.out; omega) kb) (.inr rfl) (fun e => by have := hKlt.out; omega) (fun b hb e => by have := hKlt.out; omega)
        (fun pre X => (T.KK X (w.heap.size + 1) (T.stg N bl bh rl rh ps qs 1 ++ pre) ∧ mblk X (w.heap.size + 1 + 1) = some (.cells #[.map (some (w.heap.size + 1))] 139 (0, 0)) ∧ mblk X w.heap.size = some (.cells (BkC N bl bh rl rh (.slice aP nP cP) (.slice aQ nQ cQ) (.slice aL nL cL) o) 81 (0, 0)) ∧ Up w X ∧ (∀ d, d ∈ Ds → X.heap[d]? = some (.deferred (some []))) ∧ w4.heap.size ≤ X.heap.size)) ?hI ⟨by simpa using hK4.out, k24, k34, hU4, fun d hd => (HD.out d hd).2.2, Nat.le_refl _⟩
        (fun (x : T.T4) af X => ∃ Bx, w4.heap.size + 2 ≤ Bx ∧ mblk X Bx = some (.cells (TiC x.1.1 x.1.2 x.2.1 x.2.2) 145 (0, 0)) ∧ af = { tmps := List.toArray ((BkV N bl bh rl rh (.slice aP nP cP) (.slice aQ nQ cQ) (.slice aL nL cL) o : Value) :: .pointer (some ⟨w.heap.size, 0, none⟩) :: .map none :: .pointer (some ⟨w.heap.size + 1 + 1, 0, none⟩) :: undef :: .pointer (some ⟨wr.heap.size, 0, none⟩) :: .pointer (some ⟨Bx, 0, none⟩) :: undef :: undef :: .map (some (w.heap.size + 1)) :: KiV :: .int .i64 1 :: .bool true :: .agg #[.int .i64 13, .int .i64 1, .func (.func 108) #[] #[], .func (.func 109) #[] #[], .func (.func 110) #[] #[]] :: .pointer (some ⟨wr.heap.size, 3, none⟩) :: .func (.func 109) #[] #[] :: BkV N bl bh rl rh (.slice aP nP cP) (.slice aQ nQ cQ) (.slice aL nL cL) o :: .func (.func 125) #[] #[.pointer (some ⟨wr.heap.size + 1, 0, none⟩)] :: T.tv x :: undef :: undef :: undef :: u22 :: undef :: undef :: undef :: undef :: undef :: undef :: undef :: undef :: undef :: undef :: undef :: undef :: undef :: undef :: undef :: undef :: []), defers := [] }) ?hAx ?assign ?body ?done
      case hI =>
        rintro pre X Y row ⟨h1, h2, h3, h5, h6, h7⟩ hg hr
        have kp : ∀ b, b < w4.heap.size → Y.heap[b]? = X.heap[b]? := fun b hb => hg.block b (by omega) (fun e => by have := (hr b e.symm).1; omega)
        have := hKlt.out
        have := hU4.size
        exact ⟨h1.same (kp _ (by omega)), (kp _ (by omega)).trans h2, (kp _ (by omega)).trans h3, h5.grown hg (fun r e => by have := (hr r e).1; omega), fun d hd => (kp d (by have := (HD.out d hd).2.1; omega)).trans (h6 d hd), Nat.le_trans h7 hg.size⟩
      case hAx =>
        rintro x af _ X Y row ⟨Bx, h1, h2, h3⟩ hg hr
        exact ⟨Bx, h1, (hg.block Bx (blk_lt h2) (fun e => by obtain ⟨_, o, ho, hc⟩ := hr Bx e.symm; rw [show X.heap[Bx]? = _ from h2] at ho; cases ho; simp [T.book] at hc)).trans h2, h3⟩
      case assign =>
        rintro pre x X K _ _ hX hK
        gi_wp2
        exact hK _ _ ((Up.refl X).alloc _) ⟨X.heap.size, hX, blk_new _ _ _ rfl, rfl⟩
      case body =>
        rintro pre x af X hpre ⟨h1, h2, h3, h5, h6, h7⟩ ⟨Bx, x1, x2, rfl⟩ hzX ⟨r, hr⟩
        have hmem : x ∈ T.dels qs := by
          obtain ⟨t, ht⟩ := hpre
          rw [← ht]; simp
        have hpm : ∀ t ∈ pre, t ∈ T.dels qs := fun t ht => by
          obtain ⟨t', ht'⟩ := hpre
          rw [← ht']; simp [ht]
        have hlen := T.pre_lt hpre
        have hfit := HBk.out.dels x hmem
        have hst := HBk.out.stg_len 1
        have hll := HBk.out.stg_len 2
        have hfa : ∀ t ∈ T.stg N bl bh rl rh ps qs 1 ++ pre, T.Ft t := fun t ht => (List.mem_append.1 ht).elim (HBk.out.stg 1 t) (fun h => HBk.out.dels t (hpm t h))
        have hln : (T.stg N bl bh rl rh ps qs 1 ++ pre).length < 40000 := by
          have q : (T.dels qs).length ≤ 16 := by
            have e : T.stg N bl bh rl rh ps qs 2 = T.stg N bl bh rl rh ps qs 1 ++ T.dels qs := by first | rfl | exact (List.nil_append _).symm
            rw [e, List.length_append] at hll
            omega
          rw [List.length_append]
          omega
        have HLB := Lib.hid (learnBoth_kk h1 hln hfa hfit)
        clear hfit hst hll hfa hln hmem hpm
        have ltB := blk_lt x2
        have lb2 := blk_lt h2
        have lb3 := blk_lt h3
        have HFIN := Lib.hid (show ∀ X2 X3, Up X X2 → T.KK X3 (w.heap.size + 1) ((T.stg N bl bh rl rh ps qs 1 ++ pre) ++ [x]) → X2.grownBy X3 (some (w.heap.size + 1)) → (∀ (b : Nat) (o : Obj), X.heap[b]? = some o → ¬ ((b = (w.heap.size + 1) ∨ b = w4.heap.size + 1) ∧ b ≠ w4.heap.size + 1) → X3.heap[b]? = some o) ∧ X.heap.size ≤ X3.heap.size ∧ (T.KK X3 (w.heap.size + 1) (T.stg N bl bh rl rh ps qs 1 ++ (pre ++ [x])) ∧ mblk X3 (w.heap.size + 1 + 1) = some (.cells #[.map (some (w.heap.size + 1))] 139 (0, 0)) ∧ mblk X3 w.heap.size = some (.cells (BkC N bl bh rl rh (.slice aP nP cP) (.slice aQ nQ cQ) (.slice aL nL cL) o) 81 (0, 0)) ∧ Up w X3 ∧ (∀ d, d ∈ Ds → X3.heap[d]? = some (.deferred (some []))) ∧ w4.heap.size ≤ X3.heap.size) from fun X2 X3 u2 k3 q3 => by
          have := hKlt.out
          have key : ∀ b o, X.heap[b]? = some o → b ≠ (w.heap.size + 1) → X3.heap[b]? = some o := fun b o hb e1 => by
            have l := (Array.getElem?_eq_some_iff.1 hb).1
            have a2 := (Below.block u2 b l).trans hb
            exact (q3.block b (Array.getElem?_eq_some_iff.1 a2).1 (fun e => e1 (Option.some.inj e))).trans a2
          have s2 := u2.size
          have s3 := q3.size
          refine ⟨fun b o hb hnp => key b o hb (fun e => hnp ⟨.inl e, by omega⟩), by omega, by rw [List.append_assoc] at k3; exact k3, key _ _ h2 (by omega), key _ _ h3 (by omega), (h5.trans u2).grown q3 (fun k e => by have := Option.some.inj e; omega), fun d hd => key _ _ (h6 d hd) (fun e => ?_), by omega⟩
          obtain ⟨es, ck, hh⟩ := h1.map
          have q := h6 d hd
          rw [e, hh] at q
          cases q)
        clear h1 hpre hlen
        gi_wp2_with fail
        refine ⟨trivial, (CallsIn.inRound _ (callsIn_wide.2 HLB.out)).mono ?_⟩
        rintro e X3 ⟨rfl, K3, q3⟩
        have HK3 := Lib.hid K3
        have HQ3 := Lib.hid q3
        clear K3 q3 HLB
        gi_wp2
        exact HFIN.out _ _ (Up.refl _) HK3.out HQ3.out
      case done =>
        rintro X ⟨h1, h2, h3, h5, h6, h7⟩ hzX hd
        gi_wp2
        refine Handed.intro (3 - (1 + 1)) (by omega) (hJ' _ _ _ ?_)
        refine ⟨_, _, _, _, _, _, _, _, 2, w4.heap.size :: Ds, by omega, by omega, rfl, rfl, ⟨List.nodup_cons.2 ⟨fun hm => ?_, hnd⟩, fun e he => ?_⟩, h2, h3, ?_, h5, by omega⟩
        · have := (HD.out _ hm).2.1; omega
        · rcases List.mem_cons.1 he with rfl | he
          · exact ⟨by omega, hd⟩
          · exact ⟨(HD.out e he).1, h6 e he⟩
        · have e : T.stg N bl bh rl rh ps qs 2 = T.stg N bl bh rl rh ps qs 1 ++ T.dels qs := by first | rfl | exact (List.nil_append _).symm
          show T.KK X (w.heap.size + 1) (T.stg N bl bh rl rh ps qs 2)
          rw [e]; exact h1
    · have HC := Lib.hid (fun w => offsets_any (N := (N : Int)) (bl := bl) (bh := bh) (rl := rl) (rh := rh) (aP := aP) (aQ := aQ) (aL := aL) (nP := nP) (cP := cP) (nQ := nQ) (cQ := cQ) (nL := nL) (cL := cL) (o := o) w)
      have lc := blk_lt k3
      gi_wp2_with fail
      refine ⟨trivial, (callsIn_wide.2 (HC.out _)).mono ?_⟩
      rintro e w4 ⟨rfl, hw4⟩
      obtain ⟨Wh, hWh⟩ : ∃ x, wr.alloc (.cells #[.int .i64 1, .int .i64 1, .func (.func 111) #[] #[], .func (.func 112) #[] #[], .func (.func 113) #[] #[]] 133) = x := ⟨_, rfl⟩
      rw [hWh] at hw4
      have uh : Up wr Wh := by rw [← hWh]; exact (Up.refl wr).alloc _
      have zh : Wh.heap.size = wr.heap.size + 1 := by rw [← hWh]; simp
      have ks : mblk Wh wr.heap.size = some (.cells #[.int .i64 1, .int .i64 1, .func (.func 111) #[] #[], .func (.func 112) #[] #[], .func (.func 113) #[] #[]] 133 (0, 0)) := by rw [← hWh]; exact blk_new _ _ _ rfl
      have u4 : Up Wh w4 := by rw [← hw4]; exact (Up.refl Wh).alloc _
      have kb : mblk w4 (wr.heap.size + 1) = some (.cells (BkC N bl bh rl rh (.slice aP nP cP) (.slice aQ nQ cQ) (.slice aL nL cL) o) 81 (0, 0)) := by rw [← hw4, ← zh]; exact blk_new Wh (.cells (BkC N bl bh rl rh (.slice aP nP cP) (.slice aQ nQ cQ) (.slice aL nL cL) o) 81) _ rfl
      have z4a : wr.heap.size + 2 ≤ w4.heap.size := by rw [← hw4]; simp; omega
      have z4b : w4.heap.size ≤ wr.heap.size + 2 := by rw [← hw4]; simp; omega
      have uu := uh.trans u4
      have ks4 := u4.blk ks
      have k24 := uu.blk k2
      have k34 := uu.blk k3
      have hK4 := Lib.hid (show T.KK w4 (w.heap.size + 1) (T.stg N bl bh rl rh ps qs 2) from hKn.up uu)
      have hKlt := Lib.hid (show (w.heap.size + 1) < wr.heap.size ∧ w.heap.size + 3 ≤ wr.heap.size from ⟨hKn.lt, by have := blk_lt k2; omega⟩)
      have hU4 := hU.trans uu
      have HD := Lib.hid (show ∀ d, d ∈ Ds → w1.heap.size ≤ d ∧ d < wr.heap.size ∧ w4.heap[d]? = some (.deferred (some [])) from fun d hd => ⟨(hDs d hd).1, (Array.getElem?_eq_some_iff.1 (hDs d hd).2).1, (Below.block uu d (Array.getElem?_eq_some_iff.1 (hDs d hd).2).1).trans (hDs d hd).2⟩)
      have ZH := Lib.hid zh
      clear hw4 ks u4 k2 k3 hKn hU hDs uh uu zh HC lc
      gi_wp2_with fail
      rw [ZH.out]
      clear hWh
      refine T.rangeAll (p := fun b => b = (w.heap.size + 1) ∨ b = w4.heap.size + 1) rfl (enters_of Try.func126 (by kernel_rfl) rfl) (enc := fun x : T.T4 => #[T.tv x]) (fun _ => rfl)
        (offsets_seq rfl HBk.out.n1 HBk.out.n8 (T.Sm.of hU4) (fun b e => by have := hKlt.out; have := hU4.size; omega) (fun e => by have := hKlt.out; omega) kb) (.inr rfl) (fun e => by have := hKlt.out; omega) (fun b hb e => by have := hKlt.out; omega)
        (fun pre X => (T.KK X (w.heap.size + 1) (T.stg N bl bh rl rh ps qs 2 ++ pre) ∧ mblk X (w.heap.size + 1 + 1) = some (.cells #[.map (some (w.heap.size + 1))] 139 (0, 0)) ∧ mblk X w.heap.size = some (.cells (BkC N bl bh rl rh (.slice aP nP cP) (.slice aQ nQ cQ) (.slice aL nL cL) o) 81 (0, 0)) ∧ Up w X ∧ (∀ d, d ∈ Ds → X.heap[d]? = some (.deferred (some []))) ∧ w4.heap.size ≤ X.heap.size)) ?hI ⟨by simpa using hK4.out, k24, k34, hU4, fun d hd => (HD.out d hd).2.2, Nat.le_refl _⟩
        (fun (x : T.T4) af X => ∃ Bx, w4.heap.size + 2 ≤ Bx ∧ mblk X Bx = some (.cells (TiC x.1.1 x.1.2 x.2.1 x.2.2) 145 (0, 0)) ∧ af = { tmps := List.toArray ((BkV N bl bh rl rh (.slice aP nP cP) (.slice aQ nQ cQ) (.slice aL nL cL) o : Value) :: .pointer (some ⟨w.heap.size, 0, none⟩) :: .map none :: .pointer (some ⟨w.heap.size + 1 + 1, 0, none⟩) :: undef :: .pointer (some ⟨wr.heap.size, 0, none⟩) :: .pointer (some ⟨Bx, 0, none⟩) :: undef :: undef :: .map (some (w.heap.size + 1)) :: KiV :: .int .i64 2 :: .bool true :: .agg #[.int .i64 1, .int .i64 1, .func (.func 111) #[] #[], .func (.func 112) #[] #[], .func (.func 113) #[] #[]] :: .pointer (some ⟨wr.heap.size, 3, none⟩) :: .func (.func 112) #[] #[] :: BkV N bl bh rl rh (.slice aP nP cP) (.slice aQ nQ cQ) (.slice aL nL cL) o :: .func (.func 126) #[] #[.pointer (some ⟨wr.heap.size + 1, 0, none⟩)] :: T.tv x :: undef :: undef :: undef :: u22 :: undef :: undef :: undef :: undef :: undef :: undef :: undef :: undef :: undef :: undef :: undef :: undef :: undef :: undef :: undef :: undef :: []), defers := [] }) ?hAx ?assign ?body ?done
      case hI =>
        rintro pre X Y row ⟨h1, h2, h3, h5, h6, h7⟩ hg hr
        have kp : ∀ b, b < w4.heap.size → Y.heap[b]? = X.heap[b]? := fun b hb => hg.block b (by omega) (fun e => by have := (hr b e.symm).1; omega)
        have := hKlt.out
        have := hU4.size
        exact ⟨h1.same (kp _ (by omega)), (kp _ (by omega)).trans h2, (kp _ (by omega)).trans h3, h5.grown hg (fun r e => by have := (hr r e).1; omega), fun d hd => (kp d (by have := (HD.out d hd).2.1; omega)).trans (h6 d hd), Nat.le_trans h7 hg.size⟩
      case hAx =>
        rintro x af _ X Y row ⟨Bx, h1, h2, h3⟩ hg hr
        exact ⟨Bx, h1, (hg.block Bx (blk_lt h2) (fun e => by obtain ⟨_, o, ho, hc⟩ := hr Bx e.symm; rw [show X.heap[Bx]? = _ from h2] at ho; cases ho; simp [T.book] at hc)).trans h2, h3⟩
      case assign =>
        rintro pre x X K _ _ hX hK
        gi_wp2
        exact hK _ _ ((Up.refl X).alloc _) ⟨X.heap.size, hX, blk_new _ _ _ rfl, rfl⟩
      case body =>
        rintro pre x af X hpre ⟨h1, h2, h3, h5, h6, h7⟩ ⟨Bx, x1, x2, rfl⟩ hzX ⟨r, hr⟩
        have hmem : x ∈ T.offs N bl bh rl rh := by
          obtain ⟨t, ht⟩ := hpre
          rw [← ht]; simp
        have hpm : ∀ t ∈ pre, t ∈ T.offs N bl bh rl rh := fun t ht => by
          obtain ⟨t', ht'⟩ := hpre
          rw [← ht']; simp [ht]
        have hlen := T.pre_lt hpre
        have hfit := HBk.out.offs x hmem
        have hst := HBk.out.stg_len 2
        have hll := HBk.out.stg_len 3
        have hfa : ∀ t ∈ T.stg N bl bh rl rh ps qs 2 ++ pre, T.Ft t := fun t ht => (List.mem_append.1 ht).elim (HBk.out.stg 2 t) (fun h => HBk.out.offs t (hpm t h))
        have hln : (T.stg N bl bh rl rh ps qs 2 ++ pre).length < 40000 := by
          have q : (T.offs N bl bh rl rh).length ≤ 16 := by
            have e : T.stg N bl bh rl rh ps qs 3 = T.stg N bl bh rl rh ps qs 2 ++ T.offs N bl bh rl rh := by first | rfl | exact (List.nil_append _).symm
            rw [e, List.length_append] at hll
            omega
          rw [List.length_append]
          omega
        have HLB := Lib.hid (learnBoth_kk h1 hln hfa hfit)
        clear hfit hst hll hfa hln hmem hpm
        have ltB := blk_lt x2
        have lb2 := blk_lt h2
        have lb3 := blk_lt h3
        have HFIN := Lib.hid (show ∀ X2 X3, Up X X2 → T.KK X3 (w.heap.size + 1) ((T.stg N bl bh rl rh ps qs 2 ++ pre) ++ [x]) → X2.grownBy X3 (some (w.heap.size + 1)) → (∀ (b : Nat) (o : Obj), X.heap[b]? = some o → ¬ ((b = (w.heap.size + 1) ∨ b = w4.heap.size + 1) ∧ b ≠ w4.heap.size + 1) → X3.heap[b]? = some o) ∧ X.heap.size ≤ X3.heap.size ∧ (T.KK X3 (w.heap.size + 1) (T.stg N bl bh rl rh ps qs 2 ++ (pre ++ [x])) ∧ mblk X3 (w.heap.size + 1 + 1) = some (.cells #[.map (some (w.heap.size + 1))] 139 (0, 0)) ∧ mblk X3 w.heap.size = some (.cells (BkC N bl bh rl rh (.slice aP nP cP) (.slice aQ nQ cQ) (.slice aL nL cL) o) 81 (0, 0)) ∧ Up w X3 ∧ (∀ d, d ∈ Ds → X3.heap[d]? = some (.deferred (some []))) ∧ w4.heap.size ≤ X3.heap.size) from fun X2 X3 u2 k3 q3 => by
          have := hKlt.out
          have key : ∀ b o, X.heap[b]? = some o → b ≠ (w.heap.size + 1) → X3.heap[b]? = some o := fun b o hb e1 => by
            have l := (Array.getElem?_eq_some_iff.1 hb).1
            have a2 := (Below.block u2 b l).trans hb
            exact (q3.block b (Array.getElem?_eq_some_iff.1 a2).1 (fun e => e1 (Option.some.inj e))).trans a2
          have s2 := u2.size
          have s3 := q3.size
          refine ⟨fun b o hb hnp => key b o hb (fun e => hnp ⟨.inl e, by omega⟩), by omega, by rw [List.append_assoc] at k3; exact k3, key _ _ h2 (by omega), key _ _ h3 (by omega), (h5.trans u2).grown q3 (fun k e => by have := Option.some.inj e; omega), fun d hd => key _ _ (h6 d hd) (fun e => ?_), by omega⟩
          obtain ⟨es, ck, hh⟩ := h1.map
          have q := h6 d hd
          rw [e, hh] at q
          cases q)
        clear h1 hpre hlen
        gi_wp2_with fail
        refine ⟨trivial, (CallsIn.inRound _ (callsIn_wide.2 HLB.out)).mono ?_⟩
        rintro e X3 ⟨rfl, K3, q3⟩
        have HK3 := Lib.hid K3
        have HQ3 := Lib.hid q3
        clear K3 q3 HLB
        gi_wp2
        exact HFIN.out _ _ (Up.refl _) HK3.out HQ3.out
      case done =>
        rintro X ⟨h1, h2, h3, h5, h6, h7⟩ hzX hd
        gi_wp2
        refine Handed.intro (3 - (2 + 1)) (by omega) (hJ' _ _ _ ?_)
        refine ⟨_, _, _, _, _, _, _, _, 3, w4.heap.size :: Ds, by omega, by omega, rfl, rfl, ⟨List.nodup_cons.2 ⟨fun hm => ?_, hnd⟩, fun e he => ?_⟩, h2, h3, ?_, h5, by omega⟩
        · have := (HD.out _ hm).2.1; omega
        · rcases List.mem_cons.1 he with rfl | he
          · exact ⟨by omega, hd⟩
          · exact ⟨(HD.out e he).1, h6 e he⟩
        · have e : T.stg N bl bh rl rh ps qs 3 = T.stg N bl bh rl rh ps qs 2 ++ T.offs N bl bh rl rh := by first | rfl | exact (List.nil_append _).symm
          show T.KK X (w.heap.size + 1) (T.stg N bl bh rl rh ps qs 3)
          rw [e]; exact h1
    · have hKn0 : T.KK wr (w.heap.size + 1) (T.stg N bl bh rl rh ps qs 3 ++ T.saidTo ls o 0) := by rw [show T.saidTo ls o 0 = [] from rfl, List.append_nil]; exact hKn
      have lc := blk_lt k3
      clear hKn
      gi_wp2_with fail
      clear lc
      refine wpIn_loop_ghost_k (fun gk x wr => ∃ (u7 u27 u28 u29 u30 u31 u37 : Value) (n : Nat) (Ds : List Nat), n ≤ N ∧ gk = N - n ∧ x = { tmps := List.toArray ((BkV N bl bh rl rh (.slice aP nP cP) (.slice aQ nQ cQ) (.slice aL nL cL) o : Value) :: .pointer (some ⟨w.heap.size, 0, none⟩) :: .map none :: .pointer (some ⟨w.heap.size + 1 + 1, 0, none⟩) :: undef :: u5 :: undef :: u7 :: undef :: .map (some (w.heap.size + 1)) :: KiV :: .int .i64 3 :: .bool false :: u13 :: u14 :: u15 :: u16 :: u17 :: undef :: undef :: undef :: undef :: u22 :: .pointer (some ⟨w.heap.size, 0, none⟩) :: .pointer (some ⟨w.heap.size, 0, none⟩) :: .int .i64 (N : Int) :: .int .i64 (n : Int) :: u27 :: u28 :: u29 :: u30 :: u31 :: undef :: undef :: undef :: undef :: undef :: u37 :: undef :: []), defers := Ds.map S.mark } ∧
            (Ds.Nodup ∧ ∀ d, d ∈ Ds → w1.heap.size ≤ d ∧ wr.heap[d]? = some (.deferred (some []))) ∧ mblk wr (w.heap.size + 1 + 1) = some (.cells #[.map (some (w.heap.size + 1))] 139 (0, 0)) ∧ mblk wr w.heap.size = some (.cells (BkC N bl bh rl rh (.slice aP nP cP) (.slice aQ nQ cQ) (.slice aL nL cL) o) 81 (0, 0)) ∧ T.KK wr (w.heap.size + 1) (T.stg N bl bh rl rh ps qs 3 ++ T.saidTo ls o n) ∧ Up w wr ∧ w1.heap.size ≤ wr.heap.size) N ?start2 ?round2
      case start2 => exact ⟨_, _, _, _, _, _, _, 0, Ds, Nat.zero_le _, rfl, rfl, ⟨hnd, hDs⟩, k2, k3, hKn0, hU, hz⟩
      case round2 =>
        clear k2 k3 hKn0 hU hz hnd hDs hi0 hi4
        rintro gk x wr ⟨u7, u27, u28, u29, u30, u31, u37, n, Ds, hn, rfl, rfl, ⟨hnd, hDs⟩, k2, k3, hKn, hU, hz⟩ J2 K2 hJ2 hK2
        by_cases hlt : n < N
        · have hlt' : (n : Int) < N := by omega
          have HC := Lib.hid (fun w => looksOf_any (N := (N : Int)) (bl := bl) (bh := bh) (rl := rl) (rh := rh) (aP := aP) (aQ := aQ) (aL := aL) (nP := nP) (cP := cP) (nQ := nQ) (cQ := cQ) (nL := nL) (cL := cL) (o := o) (n : Int) w)
          have lc := blk_lt k3
          gi_wp2_with fail
          refine ⟨trivial, (callsIn_wide.2 (HC.out _)).mono ?_⟩
          rintro e w4 ⟨rfl, hw4⟩
          have uu : Up wr w4 := by rw [← hw4]; exact ((Up.refl wr).alloc _).alloc _
          have kb : mblk w4 wr.heap.size = some (.cells (BkC N bl bh rl rh (.slice aP nP cP) (.slice aQ nQ cQ) (.slice aL nL cL) o) 81 (0, 0)) := by rw [← hw4]; exact blk_keep _ (blk_new wr (.cells (BkC N bl bh rl rh (.slice aP nP cP) (.slice aQ nQ cQ) (.slice aL nL cL) o) 81) _ rfl)
          have kn : mblk w4 (wr.heap.size + 1) = some (.cells #[.int .i64 (n : Int)] 3 (0, 0)) := by rw [← hw4]; exact blk_new (wr.alloc (.cells (BkC N bl bh rl rh (.slice aP nP cP) (.slice aQ nQ cQ) (.slice aL nL cL) o) 81)) (.cells #[.int .i64 (n : Int)] 3) _ (by simp)
          have z4a : wr.heap.size + 2 ≤ w4.heap.size := by rw [← hw4]; simp
          have z4b : w4.heap.size ≤ wr.heap.size + 2 := by rw [← hw4]; simp
          have k24 := uu.blk k2
          have k34 := uu.blk k3
          have hK4 := Lib.hid (show T.KK w4 (w.heap.size + 1) (T.stg N bl bh rl rh ps qs 3 ++ T.saidTo ls o n) from hKn.up uu)
          have hKlt := Lib.hid (show (w.heap.size + 1) < wr.heap.size ∧ w.heap.size + 3 ≤ wr.heap.size from ⟨hKn.lt, by have := blk_lt k2; omega⟩)
          have hU4 := hU.trans uu
          have HD := Lib.hid (show ∀ d, d ∈ Ds → w1.heap.size ≤ d ∧ d < wr.heap.size ∧ w4.heap[d]? = some (.deferred (some [])) from fun d hd => ⟨(hDs d hd).1, (Array.getElem?_eq_some_iff.1 (hDs d hd).2).1, (Below.block uu d (Array.getElem?_eq_some_iff.1 (hDs d hd).2).1).trans (hDs d hd).2⟩)
          clear hw4 k2 k3 hKn hU hDs uu HC lc
          gi_wp2_with fail
          refine T.rangeAll (p := fun b => b = (w.heap.size + 1) ∨ b = w4.heap.size + 1) rfl (enters_of Try.func129 (by kernel_rfl) rfl) (enc := fun (x : T.T5) => #[LkV x.1 x.2.1 x.2.2.1 x.2.2.2.1 x.2.2.2.2]) (fun _ => rfl)
            (looksOf_seq HL.out HBk.out.l10 (T.Sm.of hU4) (fun b e => by have := hKlt.out; have := hU4.size; omega) (fun e => by have := hKlt.out; omega) kb (fun e => by have := hKlt.out; omega) kn) (.inr rfl) (fun e => by have := hKlt.out; omega) (fun b hb e => by have := hKlt.out; omega)
            (fun pre X => (T.KK X (w.heap.size + 1) ((T.stg N bl bh rl rh ps qs 3 ++ T.saidTo ls o n) ++ pre.map T.say) ∧ mblk X (w.heap.size + 1 + 1) = some (.cells #[.map (some (w.heap.size + 1))] 139 (0, 0)) ∧ mblk X w.heap.size = some (.cells (BkC N bl bh rl rh (.slice aP nP cP) (.slice aQ nQ cQ) (.slice aL nL cL) o) 81 (0, 0)) ∧ Up w X ∧ (∀ d, d ∈ Ds → X.heap[d]? = some (.deferred (some []))) ∧ w4.heap.size ≤ X.heap.size)) ?hI ⟨by simpa using hK4.out, k24, k34, hU4, fun d hd => (HD.out d hd).2.2, Nat.le_refl _⟩
            (fun (x : T.T5) af X => ∃ Bx, w4.heap.size + 2 ≤ Bx ∧ mblk X Bx = some (.cells (LkC x.1 x.2.1 x.2.2.1 x.2.2.2.1 x.2.2.2.2) 63 (0, 0)) ∧ af = { tmps := List.toArray ((BkV N bl bh rl rh (.slice aP nP cP) (.slice aQ nQ cQ) (.slice aL nL cL) o : Value) :: .pointer (some ⟨w.heap.size, 0, none⟩) :: .map none :: .pointer (some ⟨w.heap.size + 1 + 1, 0, none⟩) :: undef :: u5 :: undef :: .int .i64 (n : Int) :: .pointer (some ⟨Bx, 0, none⟩) :: .map (some (w.heap.size + 1)) :: KiV :: .int .i64 3 :: .bool false :: u13 :: u14 :: u15 :: u16 :: u17 :: undef :: undef :: undef :: undef :: u22 :: .pointer (some ⟨w.heap.size, 0, none⟩) :: .pointer (some ⟨w.heap.size, 0, none⟩) :: .int .i64 (N : Int) :: .int .i64 (n : Int) :: .bool true :: .int .i64 (n : Int) :: BkV N bl bh rl rh (.slice aP nP cP) (.slice aQ nQ cQ) (.slice aL nL cL) o :: .int .i64 (n : Int) :: .func (.func 129) #[] #[.pointer (some ⟨wr.heap.size, 0, none⟩), .pointer (some ⟨wr.heap.size + 1, 0, none⟩)] :: LkV x.1 x.2.1 x.2.2.1 x.2.2.2.1 x.2.2.2.2 :: undef :: undef :: undef :: undef :: u37 :: undef :: []), defers := [] }) ?hAx ?assign ?body ?done
          case hI =>
            rintro pre X Y row ⟨h1, h2, h3, h5, h6, h7⟩ hg hr
            have kp : ∀ b, b < w4.heap.size → Y.heap[b]? = X.heap[b]? := fun b hb => hg.block b (by omega) (fun e => by have := (hr b e.symm).1; omega)
            have := hKlt.out
            have := hU4.size
            exact ⟨h1.same (kp _ (by omega)), (kp _ (by omega)).trans h2, (kp _ (by omega)).trans h3, h5.grown hg (fun r e => by have := (hr r e).1; omega), fun d hd => (kp d (by have := (HD.out d hd).2.1; omega)).trans (h6 d hd), Nat.le_trans h7 hg.size⟩
          case hAx =>
            rintro x af _ X Y row ⟨Bx, h1, h2, h3⟩ hg hr
            exact ⟨Bx, h1, (hg.block Bx (blk_lt h2) (fun e => by obtain ⟨_, o, ho, hc⟩ := hr Bx e.symm; rw [show X.heap[Bx]? = _ from h2] at ho; cases ho; simp [T.book] at hc)).trans h2, h3⟩
          case assign =>
            rintro pre x X K _ _ hX hK
            gi_wp2
            exact hK _ _ ((Up.refl X).alloc _) ⟨X.heap.size, hX, blk_new _ _ _ rfl, rfl⟩
          case body =>
            rintro pre x af X hpre ⟨h1, h2, h3, h5, h6, h7⟩ ⟨Bx, x1, x2, rfl⟩ hzX ⟨r, hr⟩
            have hmem : x ∈ T.lof ls o (n : Int) := by
              obtain ⟨t, ht⟩ := hpre
              rw [← ht]; simp
            have hpm : ∀ t ∈ pre, t ∈ T.lof ls o (n : Int) := fun t ht => by
              obtain ⟨t', ht'⟩ := hpre
              rw [← ht']; simp [ht]
            have hlen := T.pre_lt hpre
            have hin := (T.lof_mem hmem).1
            have hfit := HBk.out.say hin
            obtain ⟨b1, b2, b3, b4, b5⟩ := HBk.out.look x hin
            have hst := HBk.out.stg_len 3
            have hsl := T.saidTo_len (ls := ls) (o := o) n
            have h10 := HBk.out.l10
            have hmul := Nat.mul_le_mul (show n ≤ 8 by omega) h10
            have hfa : ∀ t ∈ (T.stg N bl bh rl rh ps qs 3 ++ T.saidTo ls o n) ++ pre.map T.say, T.Ft t := fun t ht => (List.mem_append.1 ht).elim (fun h => (List.mem_append.1 h).elim (HBk.out.stg 3 t) (HBk.out.saidTo t)) (fun h => by obtain ⟨y, hy, rfl⟩ := List.mem_map.1 h; exact HBk.out.say (T.lof_mem (hpm y hy)).1)
            have hln : ((T.stg N bl bh rl rh ps qs 3 ++ T.saidTo ls o n) ++ pre.map T.say).length < 40000 := by
              have := T.lof_len (ls := ls) (o := o) (n := (n : Int))
              rw [List.length_append, List.length_append, List.length_map]
              omega
            have HLB := Lib.hid (fun X2 (u2 : Up X X2) => learnBoth_kk (h1.up u2) hln hfa hfit)
            have HSD := Lib.hid (fun w => said_any x.1 x.2.1 x.2.2.1 x.2.2.2.1 x.2.2.2.2 w (by omega) b2 (by omega) b4 b5)
            clear hfit hst hfa hln hmem hpm hin b1 b2 b3 b4 b5 hsl h10 hmul
            have ltB := blk_lt x2
            have lb2 := blk_lt h2
            have lb3 := blk_lt h3
            have HFIN := Lib.hid (show ∀ X2 X3, Up X X2 → T.KK X3 (w.heap.size + 1) (((T.stg N bl bh rl rh ps qs 3 ++ T.saidTo ls o n) ++ pre.map T.say) ++ [T.say x]) → X2.grownBy X3 (some (w.heap.size + 1)) → (∀ (b : Nat) (o : Obj), X.heap[b]? = some o → ¬ ((b = (w.heap.size + 1) ∨ b = w4.heap.size + 1) ∧ b ≠ w4.heap.size + 1) → X3.heap[b]? = some o) ∧ X.heap.size ≤ X3.heap.size ∧ (T.KK X3 (w.heap.size + 1) ((T.stg N bl bh rl rh ps qs 3 ++ T.saidTo ls o n) ++ (pre ++ [x]).map T.say) ∧ mblk X3 (w.heap.size + 1 + 1) = some (.cells #[.map (some (w.heap.size + 1))] 139 (0, 0)) ∧ mblk X3 w.heap.size = some (.cells (BkC N bl bh rl rh (.slice aP nP cP) (.slice aQ nQ cQ) (.slice aL nL cL) o) 81 (0, 0)) ∧ Up w X3 ∧ (∀ d, d ∈ Ds → X3.heap[d]? = some (.deferred (some []))) ∧ w4.heap.size ≤ X3.heap.size) from fun X2 X3 u2 k3 q3 => by
              have := hKlt.out
              have key : ∀ b o, X.heap[b]? = some o → b ≠ (w.heap.size + 1) → X3.heap[b]? = some o := fun b o hb e1 => by
                have l := (Array.getElem?_eq_some_iff.1 hb).1
                have a2 := (Below.block u2 b l).trans hb
                exact (q3.block b (Array.getElem?_eq_some_iff.1 a2).1 (fun e => e1 (Option.some.inj e))).trans a2
              have s2 := u2.size
              have s3 := q3.size
              refine ⟨fun b o hb hnp => key b o hb (fun e => hnp ⟨.inl e, by omega⟩), by omega, by rw [List.append_assoc] at k3; rw [List.map_append]; exact k3, key _ _ h2 (by omega), key _ _ h3 (by omega), (h5.trans u2).grown q3 (fun k e => by have := Option.some.inj e; omega), fun d hd => key _ _ (h6 d hd) (fun e => ?_), by omega⟩
              obtain ⟨es, ck, hh⟩ := h1.map
              have q := h6 d hd
              rw [e, hh] at q
              cases q)
            clear h1 hpre hlen
            have hmx : Try.prog.follows .mixedOrders = true := by kernel_rfl
            have HX2 := Lib.hid (show T.say x = T.say (x.1, x.2.1, x.2.2.1, x.2.2.2.1, x.2.2.2.2) from rfl)
            rw [HX2.out] at HLB HFIN
            generalize T.say (x.1, x.2.1, x.2.2.1, x.2.2.2.1, x.2.2.2.2) = sx at *
            obtain ⟨⟨s1, s2⟩, s3, s4⟩ := sx
            gi_wp2_with fail
            have cy2 := cellB h2
            have cyB := cellB x2
            gi_region_with_o (first
              | (refine ⟨trivial, (CallsIn.inRound _ (callsIn_wide.2 (HSD.out _))).mono ?_⟩; rintro e X2 ⟨rfl, u2'⟩; have u2 : Up X X2 := ((Up.refl X).drew).trans u2'; have t2 := cellB (u2.blk h2); have tB := cellB (u2.blk x2))
              | (refine ⟨trivial, (CallsIn.inRound _ (callsIn_wide.2 (HLB.out _ u2))).mono ?_⟩; rintro e X3 ⟨rfl, K3, q3⟩; have HK3 := Lib.hid K3; have HQ3 := Lib.hid q3; clear K3 q3))
            all_goals exact HFIN.out _ _ u2 HK3.out HQ3.out
          case done =>
            rintro X ⟨h1, h2, h3, h5, h6, h7⟩ hzX hd
            gi_wp2
            refine Handed.intro (N - (n + 1)) (by omega) (hJ2 _ _ _ ?_)
            refine ⟨_, _, _, _, _, _, _, n + 1, w4.heap.size :: Ds, by omega, rfl, by go_num, ⟨List.nodup_cons.2 ⟨fun hm => ?_, hnd⟩, fun e he => ?_⟩, h2, h3, ?_, h5, by omega⟩
            · have := (HD.out _ hm).2.1; omega
            · rcases List.mem_cons.1 he with rfl | he
              · exact ⟨by omega, hd⟩
              · exact ⟨(HD.out e he).1, h6 e he⟩
            · rw [T.saidTo_succ, ← List.append_assoc]; exact h1
        · obtain rfl : n = N := by omega
          have hKK := Lib.hid (show T.KK wr (w.heap.size + 1) (T.ties n bl bh rl rh ps qs ls o) from hKn)
          have lk2 := blk_lt k2
          clear hKn
          gi_wp2
          refine leaves_marks Ds wr hnd (fun d hd => (hDs d hd).2) (fun W' a1 a2 a3 a4 a5 => ?_)
          refine ⟨_, results_tmp rfl _ _ _, w.heap.size + 1, rfl, hKK.out.same (a5 _ fun hm => ?_), a1.trans hU.os, a2.trans hU.tape, a3.trans hU.output, by rw [a4]; exact hU.size, fun b hb => (a5 b (fun hm => by have := (hDs b hm).1; omega)).trans (Below.block hU b hb)⟩
          have := (hDs _ hm).1; omega
end

end Go.Proofs.Ytlpkheoljbdajaa
