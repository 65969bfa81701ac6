import Derived.Test.YtckjggkikpgidaaLkr
/- Two books of which one says less: what is told of them. -/
namespace Go.Proofs.Ytckjggkikpgidaa
open Go.RowKit

section
variable {f s j dl dh dl' dh' ticks : Int} {xs : List Int} {ls ls' : List (Int × Int × Int)}
/-- all truths of a book are truths of a wider one -/
theorem S.Bk.Tru.drift (h1 : dl' ≤ dl) (h2 : dh ≤ dh') {v : Nat → Int} (h : (S.bk dl dh ticks xs ls).Tru v) : (S.bk dl' dh' ticks xs ls).Tru v := by
  refine ⟨h.off, h.look, fun i hi => ?_⟩
  have a := h.step i hi
  have b : xs.getD i 0 + dl ≤ v (i + 1) - v i ∧ v (i + 1) - v i ≤ xs.getD i 0 + dh := a
  show xs.getD i 0 + dl' ≤ v (i + 1) - v i ∧ v (i + 1) - v i ≤ xs.getD i 0 + dh'
  omega
/-- each look of the other is one of the first, or wider than one -/
theorem S.Bk.Tru.looks (h : ∀ l ∈ ls', ∃ l0 ∈ ls, l.1 = l0.1 ∧ l.2.1 ≤ l0.2.1 ∧ l0.2.2 ≤ l.2.2) {v : Nat → Int} (hv : (S.bk dl dh ticks xs ls).Tru v) : (S.bk dl dh ticks xs ls').Tru v := by
  refine ⟨hv.off, fun i hi l hl e => ?_, hv.step⟩
  obtain ⟨l0, q0, q1, q2, q3⟩ := h l hl
  have := hv.look i hi l0 q0 (by rw [← q1]; exact e)
  omega
theorem S.set_looks {k : Nat} (hk : k < ls.length) {l h : Int} (h1 : l ≤ (ls.getD k (0, 0, 0)).2.1) (h2 : (ls.getD k (0, 0, 0)).2.2 ≤ h) : ∀ z ∈ ls.set k ((ls.getD k (0, 0, 0)).1, l, h), ∃ l0 ∈ ls, z.1 = l0.1 ∧ z.2.1 ≤ l0.2.1 ∧ l0.2.2 ≤ z.2.2 := by
  intro z hz
  rcases List.mem_or_eq_of_mem_set hz with hz | hz
  · exact ⟨z, hz, rfl, Int.le_refl _, Int.le_refl _⟩
  · subst hz
    refine ⟨ls.getD k (0, 0, 0), ?_, rfl, h1, h2⟩
    rw [List.getD_eq_getElem?_getD, List.getElem?_eq_getElem hk]
    exact List.getElem_mem hk
/-- a look more binds more -/
theorem S.Bk.Tru.less {more : List (Int × Int × Int)} {v : Nat → Int} (h : (S.bk dl dh ticks xs (ls ++ more)).Tru v) : (S.bk dl dh ticks xs ls).Tru v :=
  h.looks fun l hl => ⟨l, List.mem_append_left _ hl, rfl, Int.le_refl _, Int.le_refl _⟩
/-- what holds of the first and a look more, holds of both -/
theorem S.Bk.Tru.more {t l h : Int} {v : Nat → Int} (hv : (S.bk dl dh ticks xs ls).Tru v) (hl : ∀ i : Nat, i ≤ ticks.toNat → t = (i : Int) → l ≤ v i ∧ v i ≤ h) : (S.bk dl dh ticks xs (ls ++ [(t, l, h)])).Tru v := by
  refine ⟨hv.off, fun i hi z hz e => ?_, hv.step⟩
  have hz' : z ∈ ls ++ [(t, l, h)] := hz
  rw [List.mem_append, List.mem_singleton] at hz'
  rcases hz' with q | q
  · exact hv.look i hi z q e
  · subst q
    exact hl i hi e
theorem S.ok_drift (h : S.ok f s j dl dh = true) (h1 : dl' ≤ dl) (h2 : dh ≤ dh') (h3 : -100 ≤ dl') (h4 : dh' ≤ 100) : S.ok f s j dl' dh' = true := by
  rw [S.ok_iff] at h ⊢
  omega
theorem S.book_drift (h : S.bookOk f s j dl dh ticks xs ls = true) (h1 : dl' ≤ dl) (h2 : dh ≤ dh') (h3 : -100 ≤ dl') (h4 : dh' ≤ 100) : S.bookOk f s j dl' dh' ticks xs ls = true := by
  rw [S.bookOk_iff] at h ⊢
  exact ⟨S.ok_drift h.1 h1 h2 h3 h4, h.2⟩
theorem S.book_looks (h : S.bookOk f s j dl dh ticks xs ls = true) (hl : ls'.length ≤ 10) (hk : ∀ z ∈ ls', S.lookOk ticks z = true) : S.bookOk f s j dl dh ticks xs ls' = true := by
  rw [S.bookOk_iff] at h ⊢
  exact ⟨h.1, h.2.1, h.2.2.1, hl, List.all_eq_true.2 hk⟩
/-- what is told of a book, and of a wider one -/
theorem S.Told.wider {f' s' j' : Int} {t l h e l' h' e' : Int} (A : S.Told f s j dl dh ticks xs ls t l h e) (B : S.Told f' s' j' dl' dh' ticks xs ls' t l' h' e') (hb : S.bookOk f s j dl dh ticks xs ls = true) (hb' : S.bookOk f' s' j' dl' dh' ticks xs ls' = true) (ht : 0 ≤ t ∧ t ≤ ticks) (hw : ∀ v, (S.bk dl dh ticks xs ls).Tru v → (S.bk dl' dh' ticks xs ls').Tru v) :
    (e = 42 ∧ (e' = 0 ∨ e' = 42)) ∨ (e = 0 ∧ e' = 0 ∧ l' ≤ l ∧ h ≤ h') := by
  rcases A.yes hb ht with ⟨a1, a2, a3, a4⟩ | ⟨a1, a2⟩
  · rcases B.yes hb' ht with ⟨b1, b2, b3, b4⟩ | ⟨b1, b2⟩
    · exact .inl ⟨a3, .inr b3⟩
    · exact .inl ⟨a3, .inl b1⟩
  · obtain ⟨v, v1, v2⟩ := a2.low
    obtain ⟨u, u1, u2⟩ := a2.high
    rcases B.yes hb' ht with ⟨b1, b2, b3, b4⟩ | ⟨b1, b2⟩
    · exact absurd (hw v v1) (b4 v)
    · have p := b2.all v (hw v v1)
      have q := b2.all u (hw u u1)
      exact .inr ⟨a1, b1, by omega, by omega⟩
/-- what is told of a book with a look more: that the offset was so -/
theorem S.Told.at {t x l h l' h' e' : Int} (A : S.Told f s j dl dh ticks xs ls t l h 0) (B : S.Told f s j dl dh ticks xs (ls ++ [(t, x, x)]) t l' h' e') (hb : S.bookOk f s j dl dh ticks xs ls = true) (hb' : S.bookOk f s j dl dh ticks xs (ls ++ [(t, x, x)]) = true) (ht : 0 ≤ t ∧ t ≤ ticks) :
    ((x = l ∨ x = h) → e' = 0 ∧ l' = x ∧ h' = x) ∧ ((x < l ∨ h < x) → e' = 42) := by
  rcases A.yes hb ht with ⟨_, _, a3, _⟩ | ⟨_, a2⟩
  · omega
  · have key : ∀ v, (S.bk dl dh ticks xs (ls ++ [(t, x, x)])).Tru v → v t.toNat = x := fun v hv => by
      have := hv.look t.toNat (by show t.toNat ≤ ticks.toNat; omega) (t, x, x) (List.mem_append_right _ (List.mem_singleton.2 rfl)) (by show t = ((t.toNat : Nat) : Int); omega)
      have a : x ≤ v t.toNat ∧ v t.toNat ≤ x := this
      omega
    constructor
    · intro hx
      have hex : ∃ v, (S.bk dl dh ticks xs ls).Tru v ∧ v t.toNat = x := by
        rcases hx with rfl | rfl
        · exact a2.low
        · exact a2.high
      obtain ⟨v, v1, v2⟩ := hex
      have v3 : (S.bk dl dh ticks xs (ls ++ [(t, x, x)])).Tru v := v1.more fun i _ e => by
        have : i = t.toNat := by omega
        subst this
        omega
      rcases B.yes hb' ht with ⟨_, _, _, b4⟩ | ⟨b1, b2⟩
      · exact absurd v3 (b4 v)
      · obtain ⟨u, u1, u2⟩ := b2.low
        obtain ⟨z, z1, z2⟩ := b2.high
        have := key u u1
        have := key z z1
        omega
    · intro hx
      rcases B.yes hb' ht with ⟨_, _, b3, _⟩ | ⟨_, b2⟩
      · exact b3
      · obtain ⟨u, u1, u2⟩ := b2.low
        have a := key u u1
        have b := a2.all u u1.less
        omega
end

end Go.Proofs.Ytckjggkikpgidaa
