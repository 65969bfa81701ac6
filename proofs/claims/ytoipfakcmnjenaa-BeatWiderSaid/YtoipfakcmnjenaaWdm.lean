import Derived.Test.YtoipfakcmnjenaaMon
import Derived.Test.YtoipfakcmnjenaaAp2
/- Wider rates, openings, comparisons: what is so of cellars, and in memory. -/
namespace Go.Proofs.Ytoipfakcmnjenaa
open Go.RowKit

theorem max_run {a b c : Int} (h : Max.max a b = c) (ts : Array TypeId) (t' : TypeId) (w : World) : (Builtin.max_ ts t' #[.int .i64 a, .int .i64 b]).run Try.prog w = .ok (.int .i64 c) w := by
  have e : (if b > a then b else a) = c := by split <;> omega
  rw [run_max_int2, e]
theorem min_run {a b c : Int} (h : Min.min a b = c) (ts : Array TypeId) (t' : TypeId) (w : World) : (Builtin.min_ ts t' #[.int .i64 a, .int .i64 b]).run Try.prog w = .ok (.int .i64 c) w := by
  have e : (if b < a then b else a) = c := by split <;> omega
  rw [run_min_int2, e]
theorem row_open {W : World} {base size n : Nat} {e : TypeId} {v : Value} {xs : List Value} (ho : W.ownsRow base e size v n xs) (hn : 0 < n) : ∃ g cap cur, v = .slice (some ⟨g, 0, none⟩) n cap ∧ base ≤ g ∧ mblk W g = some (.cells cur e (0, 0)) ∧ n ≤ cap ∧ cap ≤ maxLen ∧ cur.size = cap * size := by
  obtain ⟨_, ⟨_, h0⟩ | ⟨g, cap, cur, h1, h2, h3, h4, h5, h6, _⟩⟩ := ho
  · omega
  · exact ⟨g, cap, cur, h1, h2, h3, h4, h5, h6⟩
section
variable {α : Type} {k : Nat} {enc : α → Nat → Int} {d : α} {xs : List α} {W W' : World}
theorem Tab.at0 {g n c j : Nat} (I : Tab k enc d W (.slice (some ⟨g, 0, none⟩) n c) xs) (hj : j < xs.length) : ∀ i, i < k → W.cell? ⟨g, j * k + i, none⟩ = some (.int .i64 (enc (xs.getD j d) i)) := by
  obtain ⟨a', c', e, hc, hl, hm⟩ := I.is
  injection e with e1 e2 e3
  subst e1
  obtain ⟨g', off, ga, gl, hx⟩ := hm (by omega)
  injection ga with ga
  injection ga with ga gb
  subst ga gb
  intro i hi
  have := hx j hj i hi
  rwa [Nat.zero_add] at this
theorem Tab.store {g c j : Nat} {x : α} (I : Tab k enc d W (.slice (some ⟨g, 0, none⟩) xs.length c) xs) (hs : W.heap.size ≤ W'.heap.size) (hj : j < xs.length)
    (hnew : ∀ i, i < k → W'.cell? ⟨g, j * k + i, none⟩ = some (.int .i64 (enc x i))) (hold : ∀ m, (∀ i, i < k → m ≠ j * k + i) → W'.cell? ⟨g, m, none⟩ = W.cell? ⟨g, m, none⟩) : Tab k enc d W' (.slice (some ⟨g, 0, none⟩) xs.length c) (xs.set j x) := by
  obtain ⟨a', c', e, hc, hl, hm⟩ := I.is
  injection e with e1 e2 e3
  subst e1 e3
  obtain ⟨g', off, ga, gl, hx⟩ := hm (by omega)
  injection ga with ga
  injection ga with ga gb
  subst ga gb
  refine ⟨some ⟨g, 0, none⟩, c, by rw [List.length_set], by rw [List.length_set]; exact hc, by rw [List.length_set]; exact hl, fun _ => ⟨g, 0, rfl, by omega, fun m hm i hi => ?_⟩⟩
  rw [List.length_set] at hm
  rw [Nat.zero_add]
  by_cases e : m = j
  · subst e
    rw [hnew i hi, List.getD_eq_getElem?_getD, List.getElem?_set_self hm]
    rfl
  · rw [hold (m * k + i) (fun i' hi' q => ?_)]
    · have := hx m hm i hi
      rw [Nat.zero_add] at this
      rw [this, List.getD_eq_getElem?_getD, List.getD_eq_getElem?_getD, List.getElem?_set_ne (Ne.symm e)]
    · have a1 : (m * k + i) / k = m := by rw [Nat.mul_comm, Nat.mul_add_div (by omega), Nat.div_eq_of_lt hi, Nat.add_zero]
      have a2 : (j * k + i') / k = j := by rw [Nat.mul_comm, Nat.mul_add_div (by omega), Nat.div_eq_of_lt hi', Nat.add_zero]
      rw [q, a2] at a1
      exact e a1.symm
theorem Tab.put2 {g c j : Nat} {x : α} {a b : Int} {cur : Array Value} {t : TypeId} (I : Tab 2 enc d W (.slice (some ⟨g, 0, none⟩) xs.length c) xs) (hb : mblk W g = some (.cells cur t (0, 0))) (hz : xs.length * 2 ≤ cur.size) (hj : j < xs.length) (e0 : enc x 0 = a) (e1 : enc x 1 = b) :
    Tab 2 enc d ((W.setCell ⟨g, j * 2, none⟩ (.int .i64 a)).setCell ⟨g, j * 2 + 1, none⟩ (.int .i64 b)) (.slice (some ⟨g, 0, none⟩) xs.length c) (xs.set j x) := by
  refine Tab.store I (by simp [World.setCell]) hj (fun i hi => ?_) (fun m hm => ?_)
  · rw [cellB (blk_put (blk_put hb _ _) _ _)]
    have hi' : i = 0 ∨ i = 1 := by omega
    rcases hi' with rfl | rfl
    · rw [e0]
      simp [Array.getElem?_setIfInBounds]
      omega
    · rw [e1]
      simp [Array.getElem?_setIfInBounds]
      omega
  · rw [cellB (blk_put (blk_put hb _ _) _ _), cellB hb]
    have m0 := hm 0 (by omega)
    have m1 := hm 1 (by omega)
    rw [Array.getElem?_setIfInBounds_ne (fun q => m1 (by omega)), Array.getElem?_setIfInBounds_ne (fun q => m0 (by omega))]
theorem Tab.put4 {g c j : Nat} {x : α} {a b c' e : Int} {cur : Array Value} {t : TypeId} (I : Tab 4 enc d W (.slice (some ⟨g, 0, none⟩) xs.length c) xs) (hb : mblk W g = some (.cells cur t (0, 0))) (hz : xs.length * 4 ≤ cur.size) (hj : j < xs.length) (e0 : enc x 0 = a) (e1 : enc x 1 = b) (e2 : enc x 2 = c') (e3 : enc x 3 = e) :
    Tab 4 enc d ((((W.setCell ⟨g, j * 4, none⟩ (.int .i64 a)).setCell ⟨g, j * 4 + 1, none⟩ (.int .i64 b)).setCell ⟨g, j * 4 + 2, none⟩ (.int .i64 c')).setCell ⟨g, j * 4 + 3, none⟩ (.int .i64 e)) (.slice (some ⟨g, 0, none⟩) xs.length c) (xs.set j x) := by
  refine Tab.store I (by simp [World.setCell]) hj (fun i hi => ?_) (fun m hm => ?_)
  · rw [cellB (blk_put (blk_put (blk_put (blk_put hb _ _) _ _) _ _) _ _)]
    have hi' : i = 0 ∨ i = 1 ∨ i = 2 ∨ i = 3 := by omega
    rcases hi' with rfl | rfl | rfl | rfl
    · rw [e0]
      simp [Array.getElem?_setIfInBounds]
      omega
    · rw [e1]
      simp [Array.getElem?_setIfInBounds]
      omega
    · rw [e2]
      simp [Array.getElem?_setIfInBounds]
      omega
    · rw [e3]
      simp [Array.getElem?_setIfInBounds]
      omega
  · rw [cellB (blk_put (blk_put (blk_put (blk_put hb _ _) _ _) _ _) _ _), cellB hb]
    have m0 := hm 0 (by omega)
    have m1 := hm 1 (by omega)
    have m2 := hm 2 (by omega)
    have m3 := hm 3 (by omega)
    rw [Array.getElem?_setIfInBounds_ne (fun q => m3 (by omega)), Array.getElem?_setIfInBounds_ne (fun q => m2 (by omega)), Array.getElem?_setIfInBounds_ne (fun q => m1 (by omega)), Array.getElem?_setIfInBounds_ne (fun q => m0 (by omega))]
theorem Tab.put5 {g c j : Nat} {x : α} {a b c' e f : Int} {cur : Array Value} {t : TypeId} (I : Tab 5 enc d W (.slice (some ⟨g, 0, none⟩) xs.length c) xs) (hb : mblk W g = some (.cells cur t (0, 0))) (hz : xs.length * 5 ≤ cur.size) (hj : j < xs.length) (e0 : enc x 0 = a) (e1 : enc x 1 = b) (e2 : enc x 2 = c') (e3 : enc x 3 = e) (e4 : enc x 4 = f) :
    Tab 5 enc d (((((W.setCell ⟨g, j * 5, none⟩ (.int .i64 a)).setCell ⟨g, j * 5 + 1, none⟩ (.int .i64 b)).setCell ⟨g, j * 5 + 2, none⟩ (.int .i64 c')).setCell ⟨g, j * 5 + 3, none⟩ (.int .i64 e)).setCell ⟨g, j * 5 + 4, none⟩ (.int .i64 f)) (.slice (some ⟨g, 0, none⟩) xs.length c) (xs.set j x) := by
  refine Tab.store I (by simp [World.setCell]) hj (fun i hi => ?_) (fun m hm => ?_)
  · rw [cellB (blk_put (blk_put (blk_put (blk_put (blk_put hb _ _) _ _) _ _) _ _) _ _)]
    have hi' : i = 0 ∨ i = 1 ∨ i = 2 ∨ i = 3 ∨ i = 4 := by omega
    rcases hi' with rfl | rfl | rfl | rfl | rfl
    · rw [e0]
      simp [Array.getElem?_setIfInBounds]
      omega
    · rw [e1]
      simp [Array.getElem?_setIfInBounds]
      omega
    · rw [e2]
      simp [Array.getElem?_setIfInBounds]
      omega
    · rw [e3]
      simp [Array.getElem?_setIfInBounds]
      omega
    · rw [e4]
      simp [Array.getElem?_setIfInBounds]
      omega
  · rw [cellB (blk_put (blk_put (blk_put (blk_put (blk_put hb _ _) _ _) _ _) _ _) _ _), cellB hb]
    have m0 := hm 0 (by omega)
    have m1 := hm 1 (by omega)
    have m2 := hm 2 (by omega)
    have m3 := hm 3 (by omega)
    have m4 := hm 4 (by omega)
    rw [Array.getElem?_setIfInBounds_ne (fun q => m4 (by omega)), Array.getElem?_setIfInBounds_ne (fun q => m3 (by omega)), Array.getElem?_setIfInBounds_ne (fun q => m2 (by omega)), Array.getElem?_setIfInBounds_ne (fun q => m1 (by omega)), Array.getElem?_setIfInBounds_ne (fun q => m0 (by omega))]
end
section
variable {H : Nat} {rs : T.LR} {os : T.LO} {ps : T.LP}
theorem T.good_rates (G : T.Good H rs os ps) {k : Nat} {s : Int × Int} (hs : T.Bs 1000 s ∧ s.1 ≤ s.2) : T.Good H (rs.set k s) os ps where
  h1 := G.h1
  h2 := G.h2
  r1 := by rw [List.length_set]; exact G.r1
  r2 := by rw [List.length_set]; exact G.r2
  rsB x hx := by
    rcases List.mem_or_eq_of_mem_set hx with h | rfl
    · exact G.rsB x h
    · exact hs
  osB x hx := by rw [List.length_set]; exact G.osB x hx
  o6 := G.o6
  psB x hx := by rw [List.length_set]; exact G.psB x hx
  p14 := G.p14
theorem T.good_opens (G : T.Good H rs os ps) {k : Nat} {x : Int × Int × Int × Int} (hs : (0 ≤ x.1 ∧ x.1 < rs.length) ∧ (0 ≤ x.2.1 ∧ x.2.1 < H) ∧ T.Bs 100000 x.2.2 ∧ x.2.2.1 ≤ x.2.2.2) : T.Good H rs (os.set k x) ps where
  h1 := G.h1
  h2 := G.h2
  r1 := G.r1
  r2 := G.r2
  rsB := G.rsB
  osB z hz := by
    rcases List.mem_or_eq_of_mem_set hz with h | rfl
    · exact G.osB z h
    · exact hs
  o6 := by rw [List.length_set]; exact G.o6
  psB := G.psB
  p14 := G.p14
theorem T.good_pairs (G : T.Good H rs os ps) {k : Nat} {x : Int × Int × Int × Int × Int} (hs : (0 ≤ x.1 ∧ x.1 ≤ H) ∧ (0 ≤ x.2.1 ∧ x.2.1 < rs.length) ∧ (-1 ≤ x.2.2.1 ∧ x.2.2.1 < rs.length) ∧ x.2.1 ≠ x.2.2.1 ∧ T.Bs 200000 x.2.2.2 ∧ x.2.2.2.1 ≤ x.2.2.2.2) : T.Good H rs os (ps.set k x) where
  h1 := G.h1
  h2 := G.h2
  r1 := G.r1
  r2 := G.r2
  rsB := G.rsB
  osB := G.osB
  o6 := G.o6
  psB z hz := by
    rcases List.mem_or_eq_of_mem_set hz with h | rfl
    · exact G.psB z h
    · exact hs
  p14 := by rw [List.length_set]; exact G.p14
theorem T.wd_rates {k : Nat} {s : Int × Int} (hk : k < rs.length) (hs : T.Wd (rs.getD k (0, 0)) s) {y : Int × Int → Int} (h : T.Tr H rs os ps y) : T.Tr H (rs.set k s) os ps y := by
  refine h.mono (List.length_set ..) (fun c m n h1 h2 _ _ hn => ?_) (fun x hx => ⟨x, hx, rfl, rfl, rfl, fun n hn => hn⟩)
  refine T.Wd.inn ?_ hn
  rw [T.grw_fold, T.grw_fold]
  refine T.Wd.fold ?_ rfl (fun j hj => ⟨rfl, rfl, T.Wd.refl _⟩) c m
  by_cases e : c.toNat = k
  · subst e
    rw [show (rs.set c.toNat s).getD c.toNat (0, 0) = s by rw [List.getD_eq_getElem?_getD, List.getElem?_set_self hk]; rfl]
    exact hs
  · rw [List.getD_eq_getElem?_getD, List.getD_eq_getElem?_getD, List.getElem?_set_ne (Ne.symm e)]
    exact T.Wd.refl _
theorem T.wd_opens {k : Nat} {x : Int × Int × Int × Int} (hk : k < os.length) (h1 : x.1 = (os.getD k (0, 0, 0, 0)).1) (h2 : x.2.1 = (os.getD k (0, 0, 0, 0)).2.1) (hs : T.Wd (os.getD k (0, 0, 0, 0)).2.2 x.2.2) {y : Int × Int → Int} (h : T.Tr H rs os ps y) : T.Tr H rs (os.set k x) ps y := by
  refine h.mono rfl (fun c m n _ _ _ _ hn => ?_) (fun x hx => ⟨x, hx, rfl, rfl, rfl, fun n hn => hn⟩)
  refine T.Wd.inn ?_ hn
  rw [T.grw_fold, T.grw_fold]
  refine T.Wd.fold (T.Wd.refl _) (List.length_set ..) (fun j hj => ?_) c m
  by_cases e : j = k
  · subst e
    rw [show (os.set j x).getD j (0, 0, 0, 0) = x by rw [List.getD_eq_getElem?_getD, List.getElem?_set_self hk]; rfl]
    exact ⟨h1, h2, hs⟩
  · rw [show (os.set k x).getD j (0, 0, 0, 0) = os.getD j (0, 0, 0, 0) by rw [List.getD_eq_getElem?_getD, List.getD_eq_getElem?_getD, List.getElem?_set_ne (Ne.symm e)]]
    exact ⟨rfl, rfl, T.Wd.refl _⟩
theorem T.wd_pairs {k : Nat} {x : Int × Int × Int × Int × Int} (hk : k < ps.length) (h1 : x.1 = (ps.getD k (0, 0, 0, 0, 0)).1) (h2 : x.2.1 = (ps.getD k (0, 0, 0, 0, 0)).2.1) (h3 : x.2.2.1 = (ps.getD k (0, 0, 0, 0, 0)).2.2.1) (hs : T.Wd (ps.getD k (0, 0, 0, 0, 0)).2.2.2 x.2.2.2) {y : Int × Int → Int} (h : T.Tr H rs os ps y) : T.Tr H rs os (ps.set k x) y := by
  refine h.mono rfl (fun c m n _ _ _ _ hn => hn) (fun z hz => ?_)
  rcases List.mem_or_eq_of_mem_set hz with hz | rfl
  · exact ⟨z, hz, rfl, rfl, rfl, fun n hn => hn⟩
  · refine ⟨ps.getD k (0, 0, 0, 0, 0), ?_, h1.symm, h2.symm, h3.symm, fun n hn => hs.inn hn⟩
    rw [List.getD_eq_getElem?_getD, List.getElem?_eq_getElem hk]
    exact List.getElem_mem _
end

end Go.Proofs.Ytoipfakcmnjenaa
