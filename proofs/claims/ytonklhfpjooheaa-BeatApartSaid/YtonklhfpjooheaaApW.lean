import Derived.Test.YtonklhfpjooheaaTbl
import Derived.Test.YtonklhfpjooheaaLce
import Derived.Test.YtonklhfpjooheaaTeR
/- An append of a slice of things in memory to a row of the call's own: also of none. -/
namespace Go.Proofs.Ytonklhfpjooheaa
open Go.RowKit

/-- what is known of a slice's type and of its elements -/
structure T.El (e t : TypeId) (k : Nat) : Prop where
  mk :: (is : ∃ i z bytes, Try.prog.underlying t = some (.slice e) ∧ Try.prog.info? e = some i ∧ i.zero = some z ∧ i.size = k ∧ i.bytes = bytes ∧ z.cells.size = k ∧ 0 < k ∧ bytes ≤ 100)
theorem T.el_of {e t : TypeId} {k b : Nat} {z : Value} (hu : Try.prog.underlying t = some (.slice e)) (h : (Try.prog.info? e).map (fun i => (i.zero, i.size, i.bytes)) = some (some z, k, b)) (hz : z.cells.size = k) (hk : 0 < k) (hb : b ≤ 100) : T.El e t k := by
  obtain ⟨i, hi, h1, h2, h3⟩ := info_parts h
  exact ⟨i, z, b, hu, hi, h1, h2, h3, hz, hk, hb⟩
theorem T.elS : T.El 34 22 2 := T.el_of (z := .agg #[.int .i64 0, .int .i64 0]) (b := 16) Try.underlying22 (by kernel_rfl) rfl (by decide) (by decide)
theorem T.elO : T.El 63 23 4 := T.el_of (z := .agg #[.int .i64 0, .int .i64 0, .int .i64 0, .int .i64 0]) (b := 32) Try.underlying23 (by kernel_rfl) rfl (by decide) (by decide)
theorem T.elP : T.El 61 24 5 := T.el_of (z := .agg #[.int .i64 0, .int .i64 0, .int .i64 0, .int .i64 0, .int .i64 0]) (b := 40) Try.underlying24 (by kernel_rfl) rfl (by decide) (by decide)
theorem run_append_nothing {P : Program} {w : World} (base : Nat) (t ty e : TypeId) (i : TypeInfo) (size c : Nat) (ht : P.underlying t = some (.slice e)) (hi : P.info? e = some i)
    (v : Value) (n : Nat) (xs : List Value) (hown : w.ownsRow base e size v n xs) :
    (Builtin.append_ #[t, t] ty #[v, .slice none 0 c]).run P w = .ok v w := by
  rcases hown.2 with ⟨rfl, rfl⟩ | ⟨g, cap, cur, rfl, _, _, hnc, _⟩
  · simp [Builtin.append_, run_underlying ht, sizeOf, typeInfo, hi, Builtin.lenOf, Builtin.firstCells]
  · simp [Builtin.append_, run_underlying ht, sizeOf, typeInfo, hi, Builtin.lenOf, Builtin.firstCells, hnc, storeCells]
theorem grown_refl (w : World) (row : Option Nat) : w.grownBy w row := ⟨rfl, rfl, rfl, Nat.le_refl _, fun _ _ _ => rfl⟩
theorem T.one_open (w : World) (a b l u : Int) : Ops (w.alloc (.cells #[.int .i64 a, .int .i64 b, .int .i64 l, .int .i64 u] 63)) (.slice (some ⟨w.heap.size, 0, none⟩) 1 1) [(a, b, l, u)] :=
  Tab.new (cap := 1) (xs := [(a, b, l, u)]) (blk_new w _ _ rfl) (Nat.le_refl _) (by simp) (fun j hj i hi => by
    obtain rfl : j = 0 := by simpa using hj
    match i, hi with
    | 0, _ => rfl
    | 1, _ => rfl
    | 2, _ => rfl
    | 3, _ => rfl)
theorem T.one_pair (w : World) (a b c l u : Int) : Prs (w.alloc (.cells #[.int .i64 a, .int .i64 b, .int .i64 c, .int .i64 l, .int .i64 u] 61)) (.slice (some ⟨w.heap.size, 0, none⟩) 1 1) [(a, b, c, l, u)] :=
  Tab.new (cap := 1) (xs := [(a, b, c, l, u)]) (blk_new w _ _ rfl) (Nat.le_refl _) (by simp) (fun j hj i hi => by
    obtain rfl : j = 0 := by simpa using hj
    match i, hi with
    | 0, _ => rfl
    | 1, _ => rfl
    | 2, _ => rfl
    | 3, _ => rfl
    | 4, _ => rfl)
section
variable {α : Type} {k : Nat} {enc : α → Nat → Int} {d : α} {xs ys : List α} {e t : TypeId} {w : World}
theorem T.run_app (E : T.El e t k) (ty : TypeId) {x : Value} (I : Tab k enc d w x xs) (base : Nat) (v : Value) (n : Nat) (hown : w.ownsRow base e k v n (T.flat k enc ys)) (hn : n ≤ 1000) (hl : xs.length ≤ 1000) (hb : base ≤ w.heap.size) :
    ∃ v' w', (Builtin.append_ #[t, t] ty #[v, x]).run Try.prog w = .ok v' w' ∧ w'.ownsRow base e k v' (n + xs.length) (T.flat k enc (ys ++ xs)) ∧ w.grownBy w' v.ownBlock := by
  obtain ⟨i, z, bytes, hU, hi, hz0, hz1, hz2, hz3, hk, hby⟩ := E.is
  obtain ⟨a, c, rfl, hc, hmx, hm⟩ := I.is
  by_cases h0 : 0 < xs.length
  · obtain ⟨g, off, rfl, gl, hx⟩ := hm h0
    have hnews : ∀ j u, (T.flat k enc xs)[j]? = some u → w.cell? ((⟨g, off, none⟩ : Addr).add j) = some u := by
      intro j u hj
      have hjl := (List.getElem?_eq_some_iff.1 hj).1
      rw [T.flat_len] at hjl
      have e1 : j / k < xs.length := Nat.div_lt_of_lt_mul (by rw [Nat.mul_comm]; exact hjl)
      have e2 : j % k < k := Nat.mod_lt _ hk
      have e3 : j / k * k + j % k = j := by rw [Nat.mul_comm]; exact Nat.div_add_mod j k
      have q := T.flat_at (k := k) (enc := enc) (d := d) e1 e2
      rw [e3, hj] at q
      rw [Option.some.inj q]
      rw [D.add_at, ← hx _ e1 _ e2, Nat.add_assoc, e3]
    obtain ⟨v', w', hr, h1, h2, _⟩ := run_append_own (P := Try.prog) w base t ty e i z k bytes hU hi hz0 hz1 hz2 hz3 hk v n (T.flat k enc ys) hown ⟨g, off, none⟩ xs.length c (T.flat k enc xs) T.flat_len hnews T.flat_one (by unfold maxLen; omega) (by have := Nat.mul_le_mul (show n + xs.length ≤ 2000 by omega) hby; omega) hb
    exact ⟨v', w', hr, by rw [T.flat_app]; exact h1, h2⟩
  · have h1 : xs = [] := List.length_eq_zero_iff.1 (by omega)
    subst h1
    rw [List.append_nil]
    show ∃ v' w', (Builtin.append_ #[t, t] ty #[v, .slice a 0 c]).run Try.prog w = .ok v' w' ∧ _
    cases a with
    | none => exact ⟨v, w, run_append_nothing (P := Try.prog) base t ty e i k c hU hi v n _ hown, hown, grown_refl w _⟩
    | some ad =>
      obtain ⟨v', w', hr, h1, h2, _⟩ := run_append_own (P := Try.prog) w base t ty e i z k bytes hU hi hz0 hz1 hz2 hz3 hk v n (T.flat k enc ys) hown ad 0 c [] (by simp) (by simp) (by simp) (by unfold maxLen; omega) (by have := Nat.mul_le_mul (show n + 0 ≤ 2000 by omega) hby; omega) hb
      exact ⟨v', w', hr, by simpa using h1, h2⟩
theorem T.wpList_app (E : T.El e t k) {ops : Array Oper} {rest : List Oper} {o : Oper} {a : Act} {Q : Exit → Act → World → Prop} (hgd : o.guard = none) (s x : Operand) (ho : o.op = .call { callee := .builtin .append, args := #[s, x], argTypes := #[t, t] })
    {xv : Value} (I : Tab k enc d w xv xs) (hx : a.eval x = xv) (base : Nat) (v : Value) (n : Nat) (hs : a.eval s = v) (hown : w.ownsRow base e k v n (T.flat k enc ys)) (hn : n ≤ 1000) (hl : xs.length ≤ 1000) (hb : base ≤ w.heap.size)
    (h : ∀ v' w', w'.ownsRow base e k v' (n + xs.length) (T.flat k enc (ys ++ xs)) → w.grownBy w' v.ownBlock → wpList Try.prog ops Q rest (a.put o.dst v') w') : wpList Try.prog ops Q (o :: rest) a w := by
  refine wpList_plain hgd fun K hK => ?_
  obtain ⟨v', w', hr, h1, h2⟩ := T.run_app E o.type I base v n hown hn hl hb
  unfold Oper.wp execOp
  simp only [ho, resolve, invoke, builtin, Sem.run_bind, Sem.run_pure, Result.andThen_ok, List.map_toArray, List.map_cons, List.map_nil, hs, hx, hr]
  exact hK _ _ (h v' w' h1 h2)
theorem T.opIn_app (E : T.El e t k) {F : Fence} {m : Nat} {o : Oper} {a : Act} {K : Act → World → Prop} {Q : Exit → Act → World → Prop} (s x : Operand) (ho : o.op = .call { callee := .builtin .append, args := #[s, x], argTypes := #[t, t] })
    {xv : Value} (I : Tab k enc d w xv xs) (hx : a.eval x = xv) (base : Nat) (v : Value) (n : Nat) (hs : a.eval s = v) (hown : w.ownsRow base e k v n (T.flat k enc ys)) (hn : n ≤ 1000) (hl : xs.length ≤ 1000) (hb : base ≤ w.heap.size)
    (h : ∀ v' w', w'.ownsRow base e k v' (n + xs.length) (T.flat k enc (ys ++ xs)) → w.grownBy w' v.ownBlock → K (a.put o.dst v') w') : Oper.wpIn F m Try.prog o a w K Q := by
  obtain ⟨v', w', hr, h1, h2⟩ := T.run_app E o.type I base v n hown hn hl hb
  constructor
  · intro f hf
    simp [Oper.about, ho, resolve, Target.leads, Sem.run_pure] at hf
  · rw [Oper.semAt_plain F _ _ (fun c hc => by rw [ho] at hc; cases hc)]
    simp only [execOp, ho, resolve, invoke, builtin, Sem.run_bind, Sem.run_pure, Result.andThen_ok, List.map_toArray, List.map_cons, List.map_nil, hs, hx, hr]
    exact h v' w' h1 h2
end

end Go.Proofs.Ytonklhfpjooheaa

/- Wider rates, openings, comparisons: what is so of cellars, and in memory. -/
namespace Go.Proofs.Ytonklhfpjooheaa
open Go.RowKit

theorem max_run {a b c : Int} (h : Max.max a b = c) (ts : Array TypeId) (t' : TypeId) (w : World) : (Builtin.max_ ts t' #[.int .i64 a, .int .i64 b]).run Try.prog w = .ok (.int .i64 c) w := by
  have e : (if b > a then b else a) = c := by split <;> omega
  rw [run_max_int2, e]
theorem min_run {a b c : Int} (h : Min.min a b = c) (ts : Array TypeId) (t' : TypeId) (w : World) : (Builtin.min_ ts t' #[.int .i64 a, .int .i64 b]).run Try.prog w = .ok (.int .i64 c) w := by
  have e : (if b < a then b else a) = c := by split <;> omega
  rw [run_min_int2, e]
theorem row_open {W : World} {base size n : Nat} {e : TypeId} {v : Value} {xs : List Value} (ho : W.ownsRow base e size v n xs) (hn : 0 < n) : ∃ g cap cur, v = .slice (some ⟨g, 0, none⟩) n cap ∧ base ≤ g ∧ mblk W g = some (.cells cur e (0, 0)) ∧ n ≤ cap ∧ cap ≤ maxLen ∧ cur.size = cap * size := by
  obtain ⟨_, ⟨_, h0⟩ | ⟨g, cap, cur, h1, h2, h3, h4, h5, h6, _⟩⟩ := ho
  · omega
  · exact ⟨g, cap, cur, h1, h2, h3, h4, h5, h6⟩
section
variable {α : Type} {k : Nat} {enc : α → Nat → Int} {d : α} {xs : List α} {W W' : World}
theorem Tab.at0 {g n c j : Nat} (I : Tab k enc d W (.slice (some ⟨g, 0, none⟩) n c) xs) (hj : j < xs.length) : ∀ i, i < k → W.cell? ⟨g, j * k + i, none⟩ = some (.int .i64 (enc (xs.getD j d) i)) := by
  obtain ⟨a', c', e, hc, hl, hm⟩ := I.is
  injection e with e1 e2 e3
  subst e1
  obtain ⟨g', off, ga, gl, hx⟩ := hm (by omega)
  injection ga with ga
  injection ga with ga gb
  subst ga gb
  intro i hi
  have := hx j hj i hi
  rwa [Nat.zero_add] at this
theorem Tab.store {g c j : Nat} {x : α} (I : Tab k enc d W (.slice (some ⟨g, 0, none⟩) xs.length c) xs) (hs : W.heap.size ≤ W'.heap.size) (hj : j < xs.length)
    (hnew : ∀ i, i < k → W'.cell? ⟨g, j * k + i, none⟩ = some (.int .i64 (enc x i))) (hold : ∀ m, (∀ i, i < k → m ≠ j * k + i) → W'.cell? ⟨g, m, none⟩ = W.cell? ⟨g, m, none⟩) : Tab k enc d W' (.slice (some ⟨g, 0, none⟩) xs.length c) (xs.set j x) := by
  obtain ⟨a', c', e, hc, hl, hm⟩ := I.is
  injection e with e1 e2 e3
  subst e1 e3
  obtain ⟨g', off, ga, gl, hx⟩ := hm (by omega)
  injection ga with ga
  injection ga with ga gb
  subst ga gb
  refine ⟨some ⟨g, 0, none⟩, c, by rw [List.length_set], by rw [List.length_set]; exact hc, by rw [List.length_set]; exact hl, fun _ => ⟨g, 0, rfl, by omega, fun m hm i hi => ?_⟩⟩
  rw [List.length_set] at hm
  rw [Nat.zero_add]
  by_cases e : m = j
  · subst e
    rw [hnew i hi, List.getD_eq_getElem?_getD, List.getElem?_set_self hm]
    rfl
  · rw [hold (m * k + i) (fun i' hi' q => ?_)]
    · have := hx m hm i hi
      rw [Nat.zero_add] at this
      rw [this, List.getD_eq_getElem?_getD, List.getD_eq_getElem?_getD, List.getElem?_set_ne (Ne.symm e)]
    · have a1 : (m * k + i) / k = m := by rw [Nat.mul_comm, Nat.mul_add_div (by omega), Nat.div_eq_of_lt hi, Nat.add_zero]
      have a2 : (j * k + i') / k = j := by rw [Nat.mul_comm, Nat.mul_add_div (by omega), Nat.div_eq_of_lt hi', Nat.add_zero]
      rw [q, a2] at a1
      exact e a1.symm
theorem Tab.put2 {g c j : Nat} {x : α} {a b : Int} {cur : Array Value} {t : TypeId} (I : Tab 2 enc d W (.slice (some ⟨g, 0, none⟩) xs.length c) xs) (hb : mblk W g = some (.cells cur t (0, 0))) (hz : xs.length * 2 ≤ cur.size) (hj : j < xs.length) (e0 : enc x 0 = a) (e1 : enc x 1 = b) :
    Tab 2 enc d ((W.setCell ⟨g, j * 2, none⟩ (.int .i64 a)).setCell ⟨g, j * 2 + 1, none⟩ (.int .i64 b)) (.slice (some ⟨g, 0, none⟩) xs.length c) (xs.set j x) := by
  refine Tab.store I (by simp [World.setCell]) hj (fun i hi => ?_) (fun m hm => ?_)
  · rw [cellB (blk_put (blk_put hb _ _) _ _)]
    have hi' : i = 0 ∨ i = 1 := by omega
    rcases hi' with rfl | rfl
    · rw [e0]
      simp [Array.getElem?_setIfInBounds]
      omega
    · rw [e1]
      simp [Array.getElem?_setIfInBounds]
      omega
  · rw [cellB (blk_put (blk_put hb _ _) _ _), cellB hb]
    have m0 := hm 0 (by omega)
    have m1 := hm 1 (by omega)
    rw [Array.getElem?_setIfInBounds_ne (fun q => m1 (by omega)), Array.getElem?_setIfInBounds_ne (fun q => m0 (by omega))]
theorem Tab.put4 {g c j : Nat} {x : α} {a b c' e : Int} {cur : Array Value} {t : TypeId} (I : Tab 4 enc d W (.slice (some ⟨g, 0, none⟩) xs.length c) xs) (hb : mblk W g = some (.cells cur t (0, 0))) (hz : xs.length * 4 ≤ cur.size) (hj : j < xs.length) (e0 : enc x 0 = a) (e1 : enc x 1 = b) (e2 : enc x 2 = c') (e3 : enc x 3 = e) :
    Tab 4 enc d ((((W.setCell ⟨g, j * 4, none⟩ (.int .i64 a)).setCell ⟨g, j * 4 + 1, none⟩ (.int .i64 b)).setCell ⟨g, j * 4 + 2, none⟩ (.int .i64 c')).setCell ⟨g, j * 4 + 3, none⟩ (.int .i64 e)) (.slice (some ⟨g, 0, none⟩) xs.length c) (xs.set j x) := by
  refine Tab.store I (by simp [World.setCell]) hj (fun i hi => ?_) (fun m hm => ?_)
  · rw [cellB (blk_put (blk_put (blk_put (blk_put hb _ _) _ _) _ _) _ _)]
    have hi' : i = 0 ∨ i = 1 ∨ i = 2 ∨ i = 3 := by omega
    rcases hi' with rfl | rfl | rfl | rfl
    · rw [e0]
      simp [Array.getElem?_setIfInBounds]
      omega
    · rw [e1]
      simp [Array.getElem?_setIfInBounds]
      omega
    · rw [e2]
      simp [Array.getElem?_setIfInBounds]
      omega
    · rw [e3]
      simp [Array.getElem?_setIfInBounds]
      omega
  · rw [cellB (blk_put (blk_put (blk_put (blk_put hb _ _) _ _) _ _) _ _), cellB hb]
    have m0 := hm 0 (by omega)
    have m1 := hm 1 (by omega)
    have m2 := hm 2 (by omega)
    have m3 := hm 3 (by omega)
    rw [Array.getElem?_setIfInBounds_ne (fun q => m3 (by omega)), Array.getElem?_setIfInBounds_ne (fun q => m2 (by omega)), Array.getElem?_setIfInBounds_ne (fun q => m1 (by omega)), Array.getElem?_setIfInBounds_ne (fun q => m0 (by omega))]
theorem Tab.put5 {g c j : Nat} {x : α} {a b c' e f : Int} {cur : Array Value} {t : TypeId} (I : Tab 5 enc d W (.slice (some ⟨g, 0, none⟩) xs.length c) xs) (hb : mblk W g = some (.cells cur t (0, 0))) (hz : xs.length * 5 ≤ cur.size) (hj : j < xs.length) (e0 : enc x 0 = a) (e1 : enc x 1 = b) (e2 : enc x 2 = c') (e3 : enc x 3 = e) (e4 : enc x 4 = f) :
    Tab 5 enc d (((((W.setCell ⟨g, j * 5, none⟩ (.int .i64 a)).setCell ⟨g, j * 5 + 1, none⟩ (.int .i64 b)).setCell ⟨g, j * 5 + 2, none⟩ (.int .i64 c')).setCell ⟨g, j * 5 + 3, none⟩ (.int .i64 e)).setCell ⟨g, j * 5 + 4, none⟩ (.int .i64 f)) (.slice (some ⟨g, 0, none⟩) xs.length c) (xs.set j x) := by
  refine Tab.store I (by simp [World.setCell]) hj (fun i hi => ?_) (fun m hm => ?_)
  · rw [cellB (blk_put (blk_put (blk_put (blk_put (blk_put hb _ _) _ _) _ _) _ _) _ _)]
    have hi' : i = 0 ∨ i = 1 ∨ i = 2 ∨ i = 3 ∨ i = 4 := by omega
    rcases hi' with rfl | rfl | rfl | rfl | rfl
    · rw [e0]
      simp [Array.getElem?_setIfInBounds]
      omega
    · rw [e1]
      simp [Array.getElem?_setIfInBounds]
      omega
    · rw [e2]
      simp [Array.getElem?_setIfInBounds]
      omega
    · rw [e3]
      simp [Array.getElem?_setIfInBounds]
      omega
    · rw [e4]
      simp [Array.getElem?_setIfInBounds]
      omega
  · rw [cellB (blk_put (blk_put (blk_put (blk_put (blk_put hb _ _) _ _) _ _) _ _) _ _), cellB hb]
    have m0 := hm 0 (by omega)
    have m1 := hm 1 (by omega)
    have m2 := hm 2 (by omega)
    have m3 := hm 3 (by omega)
    have m4 := hm 4 (by omega)
    rw [Array.getElem?_setIfInBounds_ne (fun q => m4 (by omega)), Array.getElem?_setIfInBounds_ne (fun q => m3 (by omega)), Array.getElem?_setIfInBounds_ne (fun q => m2 (by omega)), Array.getElem?_setIfInBounds_ne (fun q => m1 (by omega)), Array.getElem?_setIfInBounds_ne (fun q => m0 (by omega))]
end
section
variable {H : Nat} {rs : T.LR} {os : T.LO} {ps : T.LP}
theorem T.good_rates (G : T.Good H rs os ps) {k : Nat} {s : Int × Int} (hs : T.Bs 1000 s ∧ s.1 ≤ s.2) : T.Good H (rs.set k s) os ps where
  h1 := G.h1
  h2 := G.h2
  r1 := by rw [List.length_set]; exact G.r1
  r2 := by rw [List.length_set]; exact G.r2
  rsB x hx := by
    rcases List.mem_or_eq_of_mem_set hx with h | rfl
    · exact G.rsB x h
    · exact hs
  osB x hx := by rw [List.length_set]; exact G.osB x hx
  o6 := G.o6
  psB x hx := by rw [List.length_set]; exact G.psB x hx
  p14 := G.p14
theorem T.good_opens (G : T.Good H rs os ps) {k : Nat} {x : Int × Int × Int × Int} (hs : (0 ≤ x.1 ∧ x.1 < rs.length) ∧ (0 ≤ x.2.1 ∧ x.2.1 < H) ∧ T.Bs 100000 x.2.2 ∧ x.2.2.1 ≤ x.2.2.2) : T.Good H rs (os.set k x) ps where
  h1 := G.h1
  h2 := G.h2
  r1 := G.r1
  r2 := G.r2
  rsB := G.rsB
  osB z hz := by
    rcases List.mem_or_eq_of_mem_set hz with h | rfl
    · exact G.osB z h
    · exact hs
  o6 := by rw [List.length_set]; exact G.o6
  psB := G.psB
  p14 := G.p14
theorem T.good_pairs (G : T.Good H rs os ps) {k : Nat} {x : Int × Int × Int × Int × Int} (hs : (0 ≤ x.1 ∧ x.1 ≤ H) ∧ (0 ≤ x.2.1 ∧ x.2.1 < rs.length) ∧ (-1 ≤ x.2.2.1 ∧ x.2.2.1 < rs.length) ∧ x.2.1 ≠ x.2.2.1 ∧ T.Bs 200000 x.2.2.2 ∧ x.2.2.2.1 ≤ x.2.2.2.2) : T.Good H rs os (ps.set k x) where
  h1 := G.h1
  h2 := G.h2
  r1 := G.r1
  r2 := G.r2
  rsB := G.rsB
  osB := G.osB
  o6 := G.o6
  psB z hz := by
    rcases List.mem_or_eq_of_mem_set hz with h | rfl
    · exact G.psB z h
    · exact hs
  p14 := by rw [List.length_set]; exact G.p14
theorem T.wd_rates {k : Nat} {s : Int × Int} (hk : k < rs.length) (hs : T.Wd (rs.getD k (0, 0)) s) {y : Int × Int → Int} (h : T.Tr H rs os ps y) : T.Tr H (rs.set k s) os ps y := by
  refine h.mono (List.length_set ..) (fun c m n h1 h2 _ _ hn => ?_) (fun x hx => ⟨x, hx, rfl, rfl, rfl, fun n hn => hn⟩)
  refine T.Wd.inn ?_ hn
  rw [T.grw_fold, T.grw_fold]
  refine T.Wd.fold ?_ rfl (fun j hj => ⟨rfl, rfl, T.Wd.refl _⟩) c m
  by_cases e : c.toNat = k
  · subst e
    rw [show (rs.set c.toNat s).getD c.toNat (0, 0) = s by rw [List.getD_eq_getElem?_getD, List.getElem?_set_self hk]; rfl]
    exact hs
  · rw [List.getD_eq_getElem?_getD, List.getD_eq_getElem?_getD, List.getElem?_set_ne (Ne.symm e)]
    exact T.Wd.refl _
theorem T.wd_opens {k : Nat} {x : Int × Int × Int × Int} (hk : k < os.length) (h1 : x.1 = (os.getD k (0, 0, 0, 0)).1) (h2 : x.2.1 = (os.getD k (0, 0, 0, 0)).2.1) (hs : T.Wd (os.getD k (0, 0, 0, 0)).2.2 x.2.2) {y : Int × Int → Int} (h : T.Tr H rs os ps y) : T.Tr H rs (os.set k x) ps y := by
  refine h.mono rfl (fun c m n _ _ _ _ hn => ?_) (fun x hx => ⟨x, hx, rfl, rfl, rfl, fun n hn => hn⟩)
  refine T.Wd.inn ?_ hn
  rw [T.grw_fold, T.grw_fold]
  refine T.Wd.fold (T.Wd.refl _) (List.length_set ..) (fun j hj => ?_) c m
  by_cases e : j = k
  · subst e
    rw [show (os.set j x).getD j (0, 0, 0, 0) = x by rw [List.getD_eq_getElem?_getD, List.getElem?_set_self hk]; rfl]
    exact ⟨h1, h2, hs⟩
  · rw [show (os.set k x).getD j (0, 0, 0, 0) = os.getD j (0, 0, 0, 0) by rw [List.getD_eq_getElem?_getD, List.getD_eq_getElem?_getD, List.getElem?_set_ne (Ne.symm e)]]
    exact ⟨rfl, rfl, T.Wd.refl _⟩
theorem T.wd_pairs {k : Nat} {x : Int × Int × Int × Int × Int} (hk : k < ps.length) (h1 : x.1 = (ps.getD k (0, 0, 0, 0, 0)).1) (h2 : x.2.1 = (ps.getD k (0, 0, 0, 0, 0)).2.1) (h3 : x.2.2.1 = (ps.getD k (0, 0, 0, 0, 0)).2.2.1) (hs : T.Wd (ps.getD k (0, 0, 0, 0, 0)).2.2.2 x.2.2.2) {y : Int × Int → Int} (h : T.Tr H rs os ps y) : T.Tr H rs os (ps.set k x) y := by
  refine h.mono rfl (fun c m n _ _ _ _ hn => hn) (fun z hz => ?_)
  rcases List.mem_or_eq_of_mem_set hz with hz | rfl
  · exact ⟨z, hz, rfl, rfl, rfl, fun n hn => hn⟩
  · refine ⟨ps.getD k (0, 0, 0, 0, 0), ?_, h1.symm, h2.symm, h3.symm, fun n hn => hs.inn hn⟩
    rw [List.getD_eq_getElem?_getD, List.getElem?_eq_getElem hk]
    exact List.getElem_mem _
end

end Go.Proofs.Ytonklhfpjooheaa

/- Cellars in another order, told twice, and with one comparison more. -/
namespace Go.Proofs.Ytonklhfpjooheaa
open Go.RowKit

section
variable {H : Nat} {rs : T.LR} {os os' : T.LO} {ps ps' : T.LP}
theorem T.good_turn (G : T.Good H rs os ps) (ho : os.Perm os') (hp : ∀ x, x ∈ ps' ↔ x ∈ ps) (hl : ps'.length ≤ 14) : T.Good H rs os' ps' where
  h1 := G.h1
  h2 := G.h2
  r1 := G.r1
  r2 := G.r2
  rsB := G.rsB
  osB x hx := G.osB x (ho.mem_iff.2 hx)
  o6 := by rw [← ho.length_eq]; exact G.o6
  psB x hx := G.psB x ((hp x).1 hx)
  p14 := hl
theorem T.tr_turn (ho : os.Perm os') (hp : ∀ x, x ∈ ps' ↔ x ∈ ps) (y : Int × Int → Int) : T.Tr H rs os ps y ↔ T.Tr H rs os' ps' y := by
  constructor
  · intro h
    exact h.mono rfl (fun k m n _ _ _ _ q => by rw [← T.grw_perm ho]; exact q) (fun x hx => ⟨x, (hp x).1 hx, rfl, rfl, rfl, fun _ q => q⟩)
  · intro h
    exact h.mono rfl (fun k m n _ _ _ _ q => by rw [T.grw_perm ho]; exact q) (fun x hx => ⟨x, (hp x).2 hx, rfl, rfl, rfl, fun _ q => q⟩)
theorem T.tr_fewer {m : Int × Int × Int × Int × Int} {y : Int × Int → Int} (h : T.Tr H rs os (ps ++ [m]) y) : T.Tr H rs os ps y :=
  h.mono rfl (fun _ _ _ _ _ _ _ q => q) (fun x hx => ⟨x, List.mem_append_left _ hx, rfl, rfl, rfl, fun _ q => q⟩)
/-- a cellar turned round, its first comparison told twice or not -/
theorem T.turned_mem {x : Int × Int × Int × Int × Int} (b : Bool) : x ∈ ps.reverse ++ (if b then ps.take 1 else []) ↔ x ∈ ps := by
  rw [List.mem_append, List.mem_reverse]
  constructor
  · rintro (h | h)
    · exact h
    · split at h
      · exact List.mem_of_mem_take h
      · cases h
  · exact .inl
variable {aR : Option Addr} {nR cR : Nat}
theorem Offset_more {k h ls hs es : Int} (hk : 0 ≤ k ∧ k < rs.length) (hh : 0 ≤ h ∧ h ≤ H) (t : T.Tells H rs os ps (k, h) (-1, 0) ls hs es) (m : Int × Int × Int × Int × Int) :
    ∃ l u e, ((e = 0 ∧ es = 0 ∧ ls ≤ l ∧ u ≤ hs) ∨ (e = 20 ∧ l = 0 ∧ u = 0) ∨ (e = 22 ∧ l = 0 ∧ u = 0)) ∧
      ∀ (w : World) (aO aP : Option Addr) (nO cO nP cP : Nat), Sps w (.slice aR nR cR) rs → Ops w (.slice aO nO cO) os → Prs w (.slice aP nP cP) (ps ++ [m]) →
        Calls Try.prog 19 #[ClV H (.slice aR nR cR) (.slice aO nO cO) (.slice aP nP cP), .int .i64 k, .int .i64 h] w fun e' w' => e' = .returned (.tuple #[SpV l u, .int .i64 e]) ∧ Up w w' := by
  cases hv : T.valid H rs os (ps ++ [m]) with
  | false =>
    refine ⟨0, 0, 20, .inr (.inl ⟨rfl, rfl, rfl⟩), fun w aO aP nO cO nP cP I IO IP => ?_⟩
    exact Offset_bad I IO IP (by unfold T.askErr; rw [if_pos hv]) (by decide)
  | true =>
    have G' := T.valid_good.1 hv
    obtain ⟨l, u, e, q⟩ := T.Tells.ex G' (T.mom_in hk hh) T.mom_0
    refine ⟨l, u, e, ?_, fun w aO aP nO cO nP cP I IO IP => Offset_tells G' hk hh q I IO IP⟩
    rcases q.wider (fun y hy => T.tr_fewer hy) t with ⟨a, b, c⟩ | ⟨a, b, c, d⟩
    · exact .inr (.inr ⟨a, b, c⟩)
    · exact .inl ⟨a, b, c, d⟩
end
theorem T.cell_lt {w : World} {a : Addr} {v : Value} (h : w.cell? a = some v) : a.block < w.heap.size := by
  obtain ⟨b, j, sp⟩ := a
  cases hb : w.heap[b]? with
  | none => simp [World.cell?, hb] at h
  | some o => exact (Array.getElem?_eq_some_iff.1 hb).1
theorem Up.cell2 {w w1 : World} (u : Up w w1) {b j : Nat} {v : Value} (h : w.cell? ⟨b, j, none⟩ = some v) : w1.cell? ⟨b, j, none⟩ = some v :=
  (u.facts.1 b j (T.cell_lt h)).trans h
theorem row_keep {W W' : World} {base size n : Nat} {e : TypeId} {v : Value} {xs : List Value} {row : Option Nat} (ho : W.ownsRow base e size v n xs) (hg : W.grownBy W' row) (h : ∀ g, v.ownBlock = some g → some g ≠ row) : W'.ownsRow base e size v n xs := by
  obtain ⟨h1, h2⟩ := ho
  rcases h2 with h2 | ⟨g, cap, cur, rfl, hb, hblk, rest⟩
  · exact ⟨h1, .inl h2⟩
  · exact ⟨h1, .inr ⟨g, cap, cur, rfl, hb, grown_blk hg hblk (h g rfl), rest⟩⟩
theorem T.mergeB {P : Prop} (R : World → Nat → Value → Nat → Nat → Nat → Prop) {G : World → Nat → Value → Nat → Nat → Nat → Prop} (h1 : Hid (∀ w' b v c d e, R w' b v c d e → G w' b v c d e) → P) (h2 : ∀ w' b v c d e, R w' b v c d e → G w' b v c d e) : P := h1 (Lib.hid h2)
theorem T.one_open1 {w : World} {p : Nat} {a b l u : Int} (h : mblk w p = some (.cells #[.int .i64 a, .int .i64 b, .int .i64 l, .int .i64 u] 63 (0, 0))) : Ops w (.slice (some ⟨p, 0, none⟩) 1 1) [(a, b, l, u)] :=
  Tab.new (cap := 1) (xs := [(a, b, l, u)]) h (Nat.le_refl _) (by simp) (fun j hj i hi => by
    obtain rfl : j = 0 := by simpa using hj
    match i, hi with
    | 0, _ => rfl
    | 1, _ => rfl
    | 2, _ => rfl
    | 3, _ => rfl)
theorem T.one_pair1 {w : World} {p : Nat} {a b c l u : Int} (h : mblk w p = some (.cells #[.int .i64 a, .int .i64 b, .int .i64 c, .int .i64 l, .int .i64 u] 61 (0, 0))) : Prs w (.slice (some ⟨p, 0, none⟩) 1 1) [(a, b, c, l, u)] :=
  Tab.new (cap := 1) (xs := [(a, b, c, l, u)]) h (Nat.le_refl _) (by simp) (fun j hj i hi => by
    obtain rfl : j = 0 := by simpa using hj
    match i, hi with
    | 0, _ => rfl
    | 1, _ => rfl
    | 2, _ => rfl
    | 3, _ => rfl
    | 4, _ => rfl)
theorem T.rev_step {α : Type} {xs : List α} {d : α} {j : Nat} (hj : j < xs.length) : (xs.drop j).reverse = (xs.drop (j + 1)).reverse ++ [xs.getD j d] := by
  rw [List.drop_eq_getElem_cons hj, List.reverse_cons, List.getD_eq_getElem?_getD, List.getElem?_eq_getElem hj]
  rfl

end Go.Proofs.Ytonklhfpjooheaa
