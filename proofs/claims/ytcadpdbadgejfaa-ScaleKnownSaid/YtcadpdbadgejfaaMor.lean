import Derived.Test.YtcadpdbadgejfaaApp
/- What is told of a book, of one with other looks and the same truths, and a tick later; small things on worlds. -/
namespace Go.Proofs.Ytcadpdbadgejfaa
open Go.RowKit

section
variable {F : Fence} {n : Nat} {P : Program} {ops : Array Oper} {Q : Exit → Act → World → Prop} {md : Region.Mode} {S : World → Prop}
/-- two may come up -/
theorem nextG2 {i j : Nat} {o o' : Oper} {fuel m : Nat} {listed : Array Bool} {a : Act} {w : World} (hr : Region.ready md ops listed = [i, j]) (ho : ops[i]? = some o) (ho' : ops[j]? = some o') (hw : Region.wanted o (yielded ops a.tmps) = true) (hw' : Region.wanted o' (yielded ops a.tmps) = true) (hcl : Closed md ops listed)
    (h : ∀ K : Act → World → Prop, Hid (∀ a w, S w → (S w → Closed md ops (listed.setIfInBounds i true) → wpAnyG F n P md ops Q S m fuel (listed.setIfInBounds i true) a w) → K a w) → Oper.wpIn F n P o a w K Q)
    (h' : ∀ K : Act → World → Prop, Hid (∀ a w, S w → (S w → Closed md ops (listed.setIfInBounds j true) → wpAnyG F n P md ops Q S m fuel (listed.setIfInBounds j true) a w) → K a w) → Oper.wpIn F n P o' a w K Q) : wpAnyG F n P md ops Q S m (fuel + 1) listed a w := by
  refine ⟨fun h0 => (by rw [hr] at h0; cases h0), fun k hk => ?_⟩
  have hk' := hk
  rw [hr, List.mem_cons, List.mem_singleton] at hk
  rcases hk with e | e
  · subst e
    refine wpOpIn_step ho fun K' hK => ?_
    rw [if_pos hw]
    exact h K' (Lib.hid fun a w hS hk => hK a w ⟨fun _ => hS, hk hS (hcl.set hk')⟩)
  · subst e
    refine wpOpIn_step ho' fun K' hK => ?_
    rw [if_pos hw']
    exact h' K' (Lib.hid fun a w hS hk => hK a w ⟨fun _ => hS, hk hS (hcl.set hk')⟩)
end
theorem put8_same {w : World} {p : Nat} {a0 a1 a2 a3 a4 a5 a6 a7 : Value} {t : TypeId} {fr : Nat × Nat} (h : mblk w p = some (.cells #[a0, a1, a2, a3, a4, a5, a6, a7] t fr)) (v0 v1 v2 v3 v4 v5 v6 v7 : Value) : mblk (((((((((((((((w.setCell ⟨p, 0, none⟩ v0)).setCell ⟨p, 1, none⟩ v1)).setCell ⟨p, 2, none⟩ v2)).setCell ⟨p, 3, none⟩ v3)).setCell ⟨p, 4, none⟩ v4)).setCell ⟨p, 5, none⟩ v5)).setCell ⟨p, 6, none⟩ v6)).setCell ⟨p, 7, none⟩ v7) p = some (.cells #[v0, v1, v2, v3, v4, v5, v6, v7] t fr) := by
  have q := blk_put (blk_put (blk_put (blk_put (blk_put (blk_put (blk_put (blk_put h 0 v0) 1 v1) 2 v2) 3 v3) 4 v4) 5 v5) 6 v6) 7 v7
  simpa using q
theorem put8_other (w : World) {p n : Nat} (hn : n ≠ p) (v0 v1 v2 v3 v4 v5 v6 v7 : Value) : mblk (((((((((((((((w.setCell ⟨p, 0, none⟩ v0)).setCell ⟨p, 1, none⟩ v1)).setCell ⟨p, 2, none⟩ v2)).setCell ⟨p, 3, none⟩ v3)).setCell ⟨p, 4, none⟩ v4)).setCell ⟨p, 5, none⟩ v5)).setCell ⟨p, 6, none⟩ v6)).setCell ⟨p, 7, none⟩ v7) n = mblk w n := by
  rw [blk_set _ _ _ _ hn, blk_set _ _ _ _ hn, blk_set _ _ _ _ hn, blk_set _ _ _ _ hn, blk_set _ _ _ _ hn, blk_set _ _ _ _ hn, blk_set _ _ _ _ hn, blk_set _ _ _ _ hn]
theorem Up.put8 {w w' : World} (h : Up w w') {p : Nat} (hb : w.heap.size ≤ p) (v0 v1 v2 v3 v4 v5 v6 v7 : Value) : Up w (((((((((((((((w'.setCell ⟨p, 0, none⟩ v0)).setCell ⟨p, 1, none⟩ v1)).setCell ⟨p, 2, none⟩ v2)).setCell ⟨p, 3, none⟩ v3)).setCell ⟨p, 4, none⟩ v4)).setCell ⟨p, 5, none⟩ v5)).setCell ⟨p, 6, none⟩ v6)).setCell ⟨p, 7, none⟩ v7) :=
  (((((((h.set hb v0).set hb v1).set hb v2).set hb v3).set hb v4).set hb v5).set hb v6).set hb v7
theorem S.mergeA {P : Prop} (R : World → Nat → Nat → Prop) {G : World → Nat → Nat → Prop} (h1 : Hid (∀ w' b c, R w' b c → G w' b c) → P) (h2 : ∀ w' b c, R w' b c → G w' b c) : P := h1 (Lib.hid h2)
theorem S.mergeB {P : Prop} (R : World → Nat → Value → Nat → Nat → Nat → Prop) {G : World → Nat → Value → Nat → Nat → Nat → Prop} (h1 : Hid (∀ w' b v c d e, R w' b v c d e → G w' b v c d e) → P) (h2 : ∀ w' b v c d e, R w' b v c d e → G w' b v c d e) : P := h1 (Lib.hid h2)
theorem cell_LOOK {w : World} {b : Nat} {cs : Array Value} (h : mblk w b = some (.cells cs 71 (0, 0))) (j : Nat) : w.cell? ⟨b, j, none⟩ = cs[j]? := cellB h j
attribute [go_sem] cell_LOOK
theorem lks_of_blk {W : World} {g cap n : Nat} {cur : Array Value} {ls : List (Int × Int × Int)} (hb : mblk W g = some (.cells cur 71 (0, 0))) (hn : n ≤ cap) (hm : cap ≤ maxLen) (hs : cur.size = cap * 3) (ht : cur.toList.take (n * 3) = S.flat ls) (hl : n = ls.length) (hk : n ≤ 1000) : Lks W (.slice (some ⟨g, 0, none⟩) n cap) ls :=
  lks_of_row (base := g) ⟨by rw [S.flat_len, hl], .inr ⟨g, cap, cur, rfl, Nat.le_refl _, hb, hn, hm, hs, ht⟩⟩ (by omega)
section
variable {f s j dl dh ticks : Int} {xs : List Int} {ls ls' : List (Int × Int × Int)}
/-- the same truths: the same is told -/
theorem S.Told.same {t l h e l' h' e' : Int} (A : S.Told f s j dl dh ticks xs ls t l h e) (B : S.Told f s j dl dh ticks xs ls' t l' h' e') (hb : S.bookOk f s j dl dh ticks xs ls = true) (hb' : S.bookOk f s j dl dh ticks xs ls' = true) (ht : 0 ≤ t ∧ t ≤ ticks) (h1 : ∀ l ∈ ls, l ∈ ls') (h2 : ∀ l ∈ ls', l ∈ ls) : l = l' ∧ h = h' ∧ e = e' := by
  have w1 := fun v (hv : (S.bk dl dh ticks xs ls).Tru v) => (S.Bk.Tru.looks (ls' := ls') (fun l hl => ⟨l, h2 l hl, rfl, Int.le_refl _, Int.le_refl _⟩) hv : (S.bk dl dh ticks xs ls').Tru v)
  have w2 := fun v (hv : (S.bk dl dh ticks xs ls').Tru v) => (S.Bk.Tru.looks (ls' := ls) (fun l hl => ⟨l, h1 l hl, rfl, Int.le_refl _, Int.le_refl _⟩) hv : (S.bk dl dh ticks xs ls).Tru v)
  rcases A.wider B hb hb' ht w1 with ⟨p1, p2⟩ | ⟨p1, p2, p3, p4⟩ <;> rcases B.wider A hb' hb ht w2 with ⟨q1, q2⟩ | ⟨q1, q2, q3, q4⟩
  · have := A.ne0 (by omega)
    have := B.ne0 (by omega)
    omega
  · omega
  · omega
  · omega
/-- a tick later -/
theorem S.Told.next {t : Nat} {l h l' h' e' : Int} (A : S.Told f s j dl dh ticks xs ls t l h 0) (B : S.Told f s j dl dh ticks xs ls ((t : Int) + 1) l' h' e') (hb : S.bookOk f s j dl dh ticks xs ls = true) (ht : (t : Int) < ticks) : e' = 0 ∧ l + dl + xs.getD t 0 ≤ l' ∧ h' ≤ h + dh + xs.getD t 0 := by
  rcases A.yes hb ⟨by omega, by omega⟩ with ⟨_, _, a3, _⟩ | ⟨_, a2⟩
  · omega
  · rcases B.yes hb ⟨by omega, by omega⟩ with ⟨_, _, _, b4⟩ | ⟨b1, b2⟩
    · obtain ⟨v, hv, _⟩ := a2.low
      exact absurd hv (b4 v)
    · have et : ((t : Int) + 1).toNat = t + 1 := by omega
      rw [et] at b2
      rw [Int.toNat_natCast] at a2
      have st : ∀ v, (S.bk dl dh ticks xs ls).Tru v → xs.getD t 0 + dl ≤ v (t + 1) - v t ∧ v (t + 1) - v t ≤ xs.getD t 0 + dh := fun v hv => hv.step t (by show t < ticks.toNat; omega)
      obtain ⟨v, v1, v2⟩ := b2.low
      obtain ⟨u, u1, u2⟩ := b2.high
      have p := a2.all v v1
      have q := a2.all u u1
      have p' := st v v1
      have q' := st u u1
      refine ⟨b1, by omega, by omega⟩
end
theorem S.rev_drop {ls : List (Int × Int × Int)} {u : Nat} (hu : u < ls.length) : (ls.drop (u + 1)).reverse ++ [ls.getD u (0, 0, 0)] = (ls.drop u).reverse := by
  rw [List.drop_eq_getElem_cons hu, List.reverse_cons, List.getD_eq_getElem?_getD, List.getElem?_eq_getElem hu]
  rfl

end Go.Proofs.Ytcadpdbadgejfaa
