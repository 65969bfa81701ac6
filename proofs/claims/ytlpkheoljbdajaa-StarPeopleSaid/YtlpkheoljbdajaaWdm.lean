import Derived.Test.YtlpkheoljbdajaaHst
import Derived.Test.YtlpkheoljbdajaaTrl
import Derived.Test.YtlpkheoljbdajaaAp2
/- An element of a row of one's own is stored; books with something changed: valid, and what their truths are. -/
namespace Go.Proofs.Ytlpkheoljbdajaa
open Go.RowKit

theorem row_open {W : World} {base size n : Nat} {e : TypeId} {v : Value} {xs : List Value} (ho : W.ownsRow base e size v n xs) (hn : 0 < n) : ∃ g cap cur, v = .slice (some ⟨g, 0, none⟩) n cap ∧ base ≤ g ∧ mblk W g = some (.cells cur e (0, 0)) ∧ n ≤ cap ∧ cap ≤ maxLen ∧ cur.size = cap * size := by
  obtain ⟨_, ⟨_, h0⟩ | ⟨g, cap, cur, h1, h2, h3, h4, h5, h6, _⟩⟩ := ho
  · omega
  · exact ⟨g, cap, cur, h1, h2, h3, h4, h5, h6⟩
section
variable {α : Type} {k : Nat} {enc : α → Nat → Int} {d : α} {xs : List α} {W W' : World}
theorem Tab.at0 {g n c j : Nat} (I : Tab k enc d W (.slice (some ⟨g, 0, none⟩) n c) xs) (hj : j < xs.length) : ∀ i, i < k → W.cell? ⟨g, j * k + i, none⟩ = some (.int .i64 (enc (xs.getD j d) i)) := by
  obtain ⟨a', c', e, hc, hl, hm⟩ := I.is
  injection e with e1 e2 e3
  subst e1
  obtain ⟨g', off, ga, gl, hx⟩ := hm (by omega)
  injection ga with ga
  injection ga with ga gb
  subst ga gb
  intro i hi
  have := hx j hj i hi
  rwa [Nat.zero_add] at this
theorem Tab.store {g c j : Nat} {x : α} (I : Tab k enc d W (.slice (some ⟨g, 0, none⟩) xs.length c) xs) (hs : W.heap.size ≤ W'.heap.size) (hj : j < xs.length)
    (hnew : ∀ i, i < k → W'.cell? ⟨g, j * k + i, none⟩ = some (.int .i64 (enc x i))) (hold : ∀ m, (∀ i, i < k → m ≠ j * k + i) → W'.cell? ⟨g, m, none⟩ = W.cell? ⟨g, m, none⟩) : Tab k enc d W' (.slice (some ⟨g, 0, none⟩) xs.length c) (xs.set j x) := by
  obtain ⟨a', c', e, hc, hl, hm⟩ := I.is
  injection e with e1 e2 e3
  subst e1 e3
  obtain ⟨g', off, ga, gl, hx⟩ := hm (by omega)
  injection ga with ga
  injection ga with ga gb
  subst ga gb
  refine ⟨some ⟨g, 0, none⟩, c, by rw [List.length_set], by rw [List.length_set]; exact hc, by rw [List.length_set]; exact hl, fun _ => ⟨g, 0, rfl, by omega, fun m hm i hi => ?_⟩⟩
  rw [List.length_set] at hm
  rw [Nat.zero_add]
  by_cases e : m = j
  · subst e
    rw [hnew i hi, List.getD_eq_getElem?_getD, List.getElem?_set_self hm]
    rfl
  · rw [hold (m * k + i) (fun i' hi' q => ?_)]
    · have := hx m hm i hi
      rw [Nat.zero_add] at this
      rw [this, List.getD_eq_getElem?_getD, List.getD_eq_getElem?_getD, List.getElem?_set_ne (Ne.symm e)]
    · have a1 : (m * k + i) / k = m := by rw [Nat.mul_comm, Nat.mul_add_div (by omega), Nat.div_eq_of_lt hi, Nat.add_zero]
      have a2 : (j * k + i') / k = j := by rw [Nat.mul_comm, Nat.mul_add_div (by omega), Nat.div_eq_of_lt hi', Nat.add_zero]
      rw [q, a2] at a1
      exact e a1.symm
theorem Tab.put2 {g c j : Nat} {x : α} {a b : Int} {cur : Array Value} {t : TypeId} (I : Tab 2 enc d W (.slice (some ⟨g, 0, none⟩) xs.length c) xs) (hb : mblk W g = some (.cells cur t (0, 0))) (hz : xs.length * 2 ≤ cur.size) (hj : j < xs.length) (e0 : enc x 0 = a) (e1 : enc x 1 = b) :
    Tab 2 enc d ((W.setCell ⟨g, j * 2, none⟩ (.int .i64 a)).setCell ⟨g, j * 2 + 1, none⟩ (.int .i64 b)) (.slice (some ⟨g, 0, none⟩) xs.length c) (xs.set j x) := by
  refine Tab.store I (by simp [World.setCell]) hj (fun i hi => ?_) (fun m hm => ?_)
  · rw [cellB (blk_put (blk_put hb _ _) _ _)]
    have hi' : i = 0 ∨ i = 1 := by omega
    rcases hi' with rfl | rfl
    · rw [e0]
      simp [Array.getElem?_setIfInBounds]
      omega
    · rw [e1]
      simp [Array.getElem?_setIfInBounds]
      omega
  · rw [cellB (blk_put (blk_put hb _ _) _ _), cellB hb]
    have m0 := hm 0 (by omega)
    have m1 := hm 1 (by omega)
    rw [Array.getElem?_setIfInBounds_ne (fun q => m1 (by omega)), Array.getElem?_setIfInBounds_ne (fun q => m0 (by omega))]
theorem Tab.put5 {g c j : Nat} {x : α} {a b c' e f : Int} {cur : Array Value} {t : TypeId} (I : Tab 5 enc d W (.slice (some ⟨g, 0, none⟩) xs.length c) xs) (hb : mblk W g = some (.cells cur t (0, 0))) (hz : xs.length * 5 ≤ cur.size) (hj : j < xs.length) (e0 : enc x 0 = a) (e1 : enc x 1 = b) (e2 : enc x 2 = c') (e3 : enc x 3 = e) (e4 : enc x 4 = f) :
    Tab 5 enc d (((((W.setCell ⟨g, j * 5, none⟩ (.int .i64 a)).setCell ⟨g, j * 5 + 1, none⟩ (.int .i64 b)).setCell ⟨g, j * 5 + 2, none⟩ (.int .i64 c')).setCell ⟨g, j * 5 + 3, none⟩ (.int .i64 e)).setCell ⟨g, j * 5 + 4, none⟩ (.int .i64 f)) (.slice (some ⟨g, 0, none⟩) xs.length c) (xs.set j x) := by
  refine Tab.store I (by simp [World.setCell]) hj (fun i hi => ?_) (fun m hm => ?_)
  · rw [cellB (blk_put (blk_put (blk_put (blk_put (blk_put hb _ _) _ _) _ _) _ _) _ _)]
    have hi' : i = 0 ∨ i = 1 ∨ i = 2 ∨ i = 3 ∨ i = 4 := by omega
    rcases hi' with rfl | rfl | rfl | rfl | rfl
    · rw [e0]
      simp [Array.getElem?_setIfInBounds]
      omega
    · rw [e1]
      simp [Array.getElem?_setIfInBounds]
      omega
    · rw [e2]
      simp [Array.getElem?_setIfInBounds]
      omega
    · rw [e3]
      simp [Array.getElem?_setIfInBounds]
      omega
    · rw [e4]
      simp [Array.getElem?_setIfInBounds]
      omega
  · rw [cellB (blk_put (blk_put (blk_put (blk_put (blk_put hb _ _) _ _) _ _) _ _) _ _), cellB hb]
    have m0 := hm 0 (by omega)
    have m1 := hm 1 (by omega)
    have m2 := hm 2 (by omega)
    have m3 := hm 3 (by omega)
    have m4 := hm 4 (by omega)
    rw [Array.getElem?_setIfInBounds_ne (fun q => m4 (by omega)), Array.getElem?_setIfInBounds_ne (fun q => m3 (by omega)), Array.getElem?_setIfInBounds_ne (fun q => m2 (by omega)), Array.getElem?_setIfInBounds_ne (fun q => m1 (by omega)), Array.getElem?_setIfInBounds_ne (fun q => m0 (by omega))]
end
theorem T.set_getD {α : Type} {xs : List α} {k j : Nat} {s d : α} (hk : k < xs.length) : (xs.set k s).getD j d = if j = k then s else xs.getD j d := by
  by_cases e : j = k
  · subst e
    rw [if_pos rfl, List.getD_eq_getElem?_getD, List.getElem?_set_self hk]
    rfl
  · rw [if_neg e, List.getD_eq_getElem?_getD, List.getD_eq_getElem?_getD, List.getElem?_set_ne (Ne.symm e)]
section
variable {N : Nat} {bl bh rl rh bl' bh' rl' rh' : Int} {ps qs ps' qs' : List (Int × Int)} {ls ls' : List T.T5} {y : Int → Int}
theorem T.valid_mk {M : Int} (hN : 1 ≤ M ∧ M ≤ 8) (hB : -20000 ≤ bl ∧ bl ≤ bh ∧ bh ≤ 20000) (hR : -1000 ≤ rl ∧ rl ≤ rh ∧ rh ≤ 1000) (h4 : ps.length ≤ 4) (h5 : qs.length ≤ 4) (h10 : ls.length ≤ 10) (hP : ∀ x ∈ ps, T.perOk x = true) (hQ : ∀ x ∈ qs, T.pathOk x = true) (hL : ∀ x ∈ ls, T.lookOk ps.length qs.length M x = true) : T.valid M bl bh rl rh ps qs ls = true := by
  unfold T.valid T.nightsOk T.othersOk
  simp only [Bool.and_eq_true, decide_eq_true_eq, List.all_eq_true, inB_iff, S.spanOk_iff]
  exact ⟨⟨hN, hB, hR⟩, ⟨⟨h4, hP⟩, h5, hQ⟩, h10, hL⟩
theorem T.per_iff {s : Int × Int} : T.perOk s = true ↔ -2000 ≤ s.1 ∧ s.1 ≤ s.2 ∧ s.2 ≤ 2000 := S.spanOk_iff
theorem T.path_iff {s : Int × Int} : T.pathOk s = true ↔ 0 ≤ s.1 ∧ s.1 ≤ s.2 ∧ s.2 ≤ 5000 := S.spanOk_iff
theorem T.look_iff {a b : Nat} {M : Int} {x : T.T5} : T.lookOk a b M x = true ↔ (0 ≤ x.1 ∧ x.1 ≤ M - 1) ∧ (0 ≤ x.2.1 ∧ x.2.1 ≤ 1) ∧ (0 ≤ x.2.2.1 ∧ x.2.2.1 ≤ T.many a b M x.2.1 - 1) ∧ (-30000 ≤ x.2.2.2.1 ∧ x.2.2.2.1 ≤ 30000) ∧ 0 ≤ x.2.2.2.2 ∧ x.2.2.2.2 ≤ 2000 := by
  unfold T.lookOk
  simp only [Bool.and_eq_true, inB_iff]
theorem T.mem_set {α : Type} {xs : List α} {k : Nat} {s : α} {p : α → Prop} (h : ∀ x ∈ xs, p x) (hs : p s) : ∀ x ∈ xs.set k s, p x := fun x hx => by
  rcases List.mem_or_eq_of_mem_set hx with hx | rfl
  · exact h x hx
  · exact hs
/-- wider spans leave each truth one -/
theorem T.tr_wd (h : T.Tr N bl bh rl rh ps qs ls y) (hb : bl' ≤ bl ∧ bh ≤ bh') (hr : rl' ≤ rl ∧ rh ≤ rh') (lp : ps'.length = ps.length) (hp : ∀ k, k < ps.length → (ps'.getD k (0, 0)).1 ≤ (ps.getD k (0, 0)).1 ∧ (ps.getD k (0, 0)).2 ≤ (ps'.getD k (0, 0)).2)
    (lq : qs'.length = qs.length) (hq : ∀ k, k < qs.length → (qs'.getD k (0, 0)).1 ≤ (qs.getD k (0, 0)).1 ∧ (qs.getD k (0, 0)).2 ≤ (qs'.getD k (0, 0)).2) (hl : ∀ x ∈ ls', T.HL y x) : T.Tr N bl' bh' rl' rh' ps' qs' ls' y := by
  refine ⟨by have := h.beg; omega, fun k hk => by have := h.rat k hk; omega, fun k hk => ?_, fun k hk => ?_, fun _ hk _ => hl _ (T.getD_mem hk)⟩
  · have a := h.per k (by omega)
    have b := hp k (by omega)
    omega
  · have a := h.pth k (by omega)
    have b := hq k (by omega)
    omega
theorem T.set_wd {xs : List (Int × Int)} {j : Nat} {l u : Int} (hj : j < xs.length) (hs : l ≤ (xs.getD j (0, 0)).1 ∧ (xs.getD j (0, 0)).2 ≤ u) : ∀ k, k < xs.length → ((xs.set j (l, u)).getD k (0, 0)).1 ≤ (xs.getD k (0, 0)).1 ∧ (xs.getD k (0, 0)).2 ≤ ((xs.set j (l, u)).getD k (0, 0)).2 := fun k _ => by
  rw [T.set_getD hj]
  by_cases e : k = j
  · subst e
    rw [if_pos rfl]
    exact hs
  · rw [if_neg e]
    omega
end

end Go.Proofs.Ytlpkheoljbdajaa
