import Derived.Test.YtcadpdbadgejfaaSnd
/- A copy of a book's looks: what an append of them brings, and what a row of the call's own says of looks. -/
namespace Go.Proofs.Ytcadpdbadgejfaa
open Go.RowKit

/-- the numbers of looks, one after another -/
def S.flat : List (Int × Int × Int) → List Value
  | [] => []
  | l :: t => [.int .i64 l.1, .int .i64 l.2.1, .int .i64 l.2.2] ++ S.flat t
theorem S.flat_len (ls : List (Int × Int × Int)) : (S.flat ls).length = ls.length * 3 := by
  induction ls with
  | nil => rfl
  | cons l t ih => show ([_, _, _] ++ S.flat t).length = _; rw [List.length_append, ih]; simp; omega
theorem S.flat_app (a b : List (Int × Int × Int)) : S.flat (a ++ b) = S.flat a ++ S.flat b := by
  induction a with
  | nil => rfl
  | cons l t ih => show [_, _, _] ++ S.flat (t ++ b) = ([_, _, _] ++ S.flat t) ++ S.flat b; rw [ih, List.append_assoc]
theorem S.flat_at : ∀ (ls : List (Int × Int × Int)) (i : Nat), i < ls.length → (S.flat ls)[i * 3]? = some (.int .i64 (ls.getD i (0, 0, 0)).1) ∧ (S.flat ls)[i * 3 + 1]? = some (.int .i64 (ls.getD i (0, 0, 0)).2.1) ∧ (S.flat ls)[i * 3 + 2]? = some (.int .i64 (ls.getD i (0, 0, 0)).2.2) := by
  intro ls
  induction ls with
  | nil => intro i h; simp at h
  | cons l t ih =>
    intro i h
    cases i with
    | zero => exact ⟨rfl, rfl, rfl⟩
    | succ i =>
      have e := ih i (by simpa using h)
      rw [List.getD_cons_succ]
      have q : ∀ r, (S.flat (l :: t))[(i + 1) * 3 + r]? = (S.flat t)[i * 3 + r]? := fun r => by
        show ([.int .i64 l.1, .int .i64 l.2.1, .int .i64 l.2.2] ++ S.flat t)[(i + 1) * 3 + r]? = _
        rw [List.getElem?_append_right (by simp; omega)]
        congr 1
        simp
        omega
      have q0 := q 0
      have q1 := q 1
      have q2 := q 2
      rw [Nat.add_zero, Nat.add_zero] at q0
      rw [q0, q1, q2]
      exact e
/-- what lies in memory of looks -/
theorem Lks.flat {w : World} {g off n c : Nat} {ls : List (Int × Int × Int)} (I : Lks w (.slice (some ⟨g, off, none⟩) n c) ls) : ∀ j u, (S.flat ls)[j]? = some u → w.cell? ((⟨g, off, none⟩ : Addr).add j) = some u := by
  intro j u h
  have hj : j < ls.length * 3 := by
    rw [← S.flat_len]
    exact (List.getElem?_eq_some_iff.1 h).1
  obtain ⟨a, c', e, _, _, m⟩ := I.is
  obtain ⟨g', off', rfl, _, hc⟩ := m (by omega)
  simp only [Value.slice.injEq, Option.some.injEq, Addr.mk.injEq] at e
  obtain ⟨⟨rfl, rfl, _⟩, _, _⟩ := e
  obtain ⟨i, r, rfl, hr⟩ : ∃ i r, j = i * 3 + r ∧ r < 3 := ⟨j / 3, j % 3, by omega, Nat.mod_lt _ (by omega)⟩
  have hi : i < ls.length := by omega
  obtain ⟨x0, x1, x2⟩ := hc i hi
  obtain ⟨y0, y1, y2⟩ := S.flat_at ls i hi
  rw [D.add_at]
  match r, hr with
  | 0, _ => rw [Nat.add_zero] at h ⊢; rw [y0] at h; rw [x0]; exact h
  | 1, _ => rw [y1] at h; rw [← Nat.add_assoc, x1]; exact h
  | 2, _ => rw [y2] at h; rw [← Nat.add_assoc, x2]; exact h
/-- a row of the call's own holds looks -/
theorem lks_of_row {W : World} {base n : Nat} {v : Value} {ls : List (Int × Int × Int)} (ho : W.ownsRow base 71 3 v n (S.flat ls)) (hn : n ≤ 1000000) : Lks W v ls := by
  have hlen : n = ls.length := by
    have := ho.1
    rw [S.flat_len] at this
    omega
  subst hlen
  obtain ⟨_, ⟨rfl, hz⟩ | ⟨g, cap, cur, rfl, hg, hb, h1, h2, h3, h4⟩⟩ := id ho
  · exact ⟨none, 0, by rw [hz], by omega, by omega, fun h => by omega⟩
  · have hgl := (Array.getElem?_eq_some_iff.1 hb).1
    refine ⟨some ⟨g, 0, none⟩, cap, rfl, h1, by omega, fun _ => ⟨g, 0, rfl, hgl, fun j hj => ?_⟩⟩
    obtain ⟨y0, y1, y2⟩ := S.flat_at ls j hj
    rw [Nat.zero_add]
    exact ⟨row_at ho y0, row_at ho y1, row_at ho y2⟩

end Go.Proofs.Ytcadpdbadgejfaa

/- Two books of which one says less: what is told of them. -/
namespace Go.Proofs.Ytcadpdbadgejfaa
open Go.RowKit

section
variable {f s j dl dh dl' dh' ticks : Int} {xs : List Int} {ls ls' : List (Int × Int × Int)}
/-- all truths of a book are truths of a wider one -/
theorem S.Bk.Tru.drift (h1 : dl' ≤ dl) (h2 : dh ≤ dh') {v : Nat → Int} (h : (S.bk dl dh ticks xs ls).Tru v) : (S.bk dl' dh' ticks xs ls).Tru v := by
  refine ⟨h.off, h.look, fun i hi => ?_⟩
  have a := h.step i hi
  have b : xs.getD i 0 + dl ≤ v (i + 1) - v i ∧ v (i + 1) - v i ≤ xs.getD i 0 + dh := a
  show xs.getD i 0 + dl' ≤ v (i + 1) - v i ∧ v (i + 1) - v i ≤ xs.getD i 0 + dh'
  omega
/-- each look of the other is one of the first, or wider than one -/
theorem S.Bk.Tru.looks (h : ∀ l ∈ ls', ∃ l0 ∈ ls, l.1 = l0.1 ∧ l.2.1 ≤ l0.2.1 ∧ l0.2.2 ≤ l.2.2) {v : Nat → Int} (hv : (S.bk dl dh ticks xs ls).Tru v) : (S.bk dl dh ticks xs ls').Tru v := by
  refine ⟨hv.off, fun i hi l hl e => ?_, hv.step⟩
  obtain ⟨l0, q0, q1, q2, q3⟩ := h l hl
  have := hv.look i hi l0 q0 (by rw [← q1]; exact e)
  omega
theorem S.set_looks {k : Nat} (hk : k < ls.length) {l h : Int} (h1 : l ≤ (ls.getD k (0, 0, 0)).2.1) (h2 : (ls.getD k (0, 0, 0)).2.2 ≤ h) : ∀ z ∈ ls.set k ((ls.getD k (0, 0, 0)).1, l, h), ∃ l0 ∈ ls, z.1 = l0.1 ∧ z.2.1 ≤ l0.2.1 ∧ l0.2.2 ≤ z.2.2 := by
  intro z hz
  rcases List.mem_or_eq_of_mem_set hz with hz | hz
  · exact ⟨z, hz, rfl, Int.le_refl _, Int.le_refl _⟩
  · subst hz
    refine ⟨ls.getD k (0, 0, 0), ?_, rfl, h1, h2⟩
    rw [List.getD_eq_getElem?_getD, List.getElem?_eq_getElem hk]
    exact List.getElem_mem hk
/-- a look more binds more -/
theorem S.Bk.Tru.less {more : List (Int × Int × Int)} {v : Nat → Int} (h : (S.bk dl dh ticks xs (ls ++ more)).Tru v) : (S.bk dl dh ticks xs ls).Tru v :=
  h.looks fun l hl => ⟨l, List.mem_append_left _ hl, rfl, Int.le_refl _, Int.le_refl _⟩
/-- what holds of the first and a look more, holds of both -/
theorem S.Bk.Tru.more {t l h : Int} {v : Nat → Int} (hv : (S.bk dl dh ticks xs ls).Tru v) (hl : ∀ i : Nat, i ≤ ticks.toNat → t = (i : Int) → l ≤ v i ∧ v i ≤ h) : (S.bk dl dh ticks xs (ls ++ [(t, l, h)])).Tru v := by
  refine ⟨hv.off, fun i hi z hz e => ?_, hv.step⟩
  have hz' : z ∈ ls ++ [(t, l, h)] := hz
  rw [List.mem_append, List.mem_singleton] at hz'
  rcases hz' with q | q
  · exact hv.look i hi z q e
  · subst q
    exact hl i hi e
theorem S.ok_drift (h : S.ok f s j dl dh = true) (h1 : dl' ≤ dl) (h2 : dh ≤ dh') (h3 : -100 ≤ dl') (h4 : dh' ≤ 100) : S.ok f s j dl' dh' = true := by
  rw [S.ok_iff] at h ⊢
  omega
theorem S.book_drift (h : S.bookOk f s j dl dh ticks xs ls = true) (h1 : dl' ≤ dl) (h2 : dh ≤ dh') (h3 : -100 ≤ dl') (h4 : dh' ≤ 100) : S.bookOk f s j dl' dh' ticks xs ls = true := by
  rw [S.bookOk_iff] at h ⊢
  exact ⟨S.ok_drift h.1 h1 h2 h3 h4, h.2⟩
theorem S.book_looks (h : S.bookOk f s j dl dh ticks xs ls = true) (hl : ls'.length ≤ 10) (hk : ∀ z ∈ ls', S.lookOk ticks z = true) : S.bookOk f s j dl dh ticks xs ls' = true := by
  rw [S.bookOk_iff] at h ⊢
  exact ⟨h.1, h.2.1, h.2.2.1, hl, List.all_eq_true.2 hk⟩
/-- what is told of a book, and of a wider one -/
theorem S.Told.wider {f' s' j' : Int} {t l h e l' h' e' : Int} (A : S.Told f s j dl dh ticks xs ls t l h e) (B : S.Told f' s' j' dl' dh' ticks xs ls' t l' h' e') (hb : S.bookOk f s j dl dh ticks xs ls = true) (hb' : S.bookOk f' s' j' dl' dh' ticks xs ls' = true) (ht : 0 ≤ t ∧ t ≤ ticks) (hw : ∀ v, (S.bk dl dh ticks xs ls).Tru v → (S.bk dl' dh' ticks xs ls').Tru v) :
    (e = 42 ∧ (e' = 0 ∨ e' = 42)) ∨ (e = 0 ∧ e' = 0 ∧ l' ≤ l ∧ h ≤ h') := by
  rcases A.yes hb ht with ⟨a1, a2, a3, a4⟩ | ⟨a1, a2⟩
  · rcases B.yes hb' ht with ⟨b1, b2, b3, b4⟩ | ⟨b1, b2⟩
    · exact .inl ⟨a3, .inr b3⟩
    · exact .inl ⟨a3, .inl b1⟩
  · obtain ⟨v, v1, v2⟩ := a2.low
    obtain ⟨u, u1, u2⟩ := a2.high
    rcases B.yes hb' ht with ⟨b1, b2, b3, b4⟩ | ⟨b1, b2⟩
    · exact absurd (hw v v1) (b4 v)
    · have p := b2.all v (hw v v1)
      have q := b2.all u (hw u u1)
      exact .inr ⟨a1, b1, by omega, by omega⟩
/-- what is told of a book with a look more: that the offset was so -/
theorem S.Told.at {t x l h l' h' e' : Int} (A : S.Told f s j dl dh ticks xs ls t l h 0) (B : S.Told f s j dl dh ticks xs (ls ++ [(t, x, x)]) t l' h' e') (hb : S.bookOk f s j dl dh ticks xs ls = true) (hb' : S.bookOk f s j dl dh ticks xs (ls ++ [(t, x, x)]) = true) (ht : 0 ≤ t ∧ t ≤ ticks) :
    ((x = l ∨ x = h) → e' = 0 ∧ l' = x ∧ h' = x) ∧ ((x < l ∨ h < x) → e' = 42) := by
  rcases A.yes hb ht with ⟨_, _, a3, _⟩ | ⟨_, a2⟩
  · omega
  · have key : ∀ v, (S.bk dl dh ticks xs (ls ++ [(t, x, x)])).Tru v → v t.toNat = x := fun v hv => by
      have := hv.look t.toNat (by show t.toNat ≤ ticks.toNat; omega) (t, x, x) (List.mem_append_right _ (List.mem_singleton.2 rfl)) (by show t = ((t.toNat : Nat) : Int); omega)
      have a : x ≤ v t.toNat ∧ v t.toNat ≤ x := this
      omega
    constructor
    · intro hx
      have hex : ∃ v, (S.bk dl dh ticks xs ls).Tru v ∧ v t.toNat = x := by
        rcases hx with rfl | rfl
        · exact a2.low
        · exact a2.high
      obtain ⟨v, v1, v2⟩ := hex
      have v3 : (S.bk dl dh ticks xs (ls ++ [(t, x, x)])).Tru v := v1.more fun i _ e => by
        have : i = t.toNat := by omega
        subst this
        omega
      rcases B.yes hb' ht with ⟨_, _, _, b4⟩ | ⟨b1, b2⟩
      · exact absurd v3 (b4 v)
      · obtain ⟨u, u1, u2⟩ := b2.low
        obtain ⟨z, z1, z2⟩ := b2.high
        have := key u u1
        have := key z z1
        omega
    · intro hx
      rcases B.yes hb' ht with ⟨_, _, b3, _⟩ | ⟨_, b2⟩
      · exact b3
      · obtain ⟨u, u1, u2⟩ := b2.low
        have a := key u u1
        have b := a2.all u u1.less
        omega
end

end Go.Proofs.Ytcadpdbadgejfaa

/- A look of a row of the call's own is written anew. -/
namespace Go.Proofs.Ytcadpdbadgejfaa
open Go.RowKit

theorem infoLook : (Try.prog.info? 71).map (fun i => (i.zero, i.size, i.bytes)) = some (some (.agg #[.int .i64 0, .int .i64 0, .int .i64 0]), 3, 24) := by kernel_rfl
theorem S.flat_one (ls : List (Int × Int × Int)) : ∀ u ∈ S.flat ls, u.oneCell' = true := by
  induction ls with
  | nil => intro u h; simp [S.flat] at h
  | cons l t ih =>
    intro u h
    have h' : u ∈ [Value.int .i64 l.1, .int .i64 l.2.1, .int .i64 l.2.2] ++ S.flat t := h
    rw [List.mem_append] at h'
    rcases h' with q | q
    · simp at q
      rcases q with rfl | rfl | rfl <;> rfl
    · exact ih u q
theorem row_open {W : World} {base size n : Nat} {e : TypeId} {v : Value} {xs : List Value} (ho : W.ownsRow base e size v n xs) (hn : 0 < n) : ∃ g cap cur, v = .slice (some ⟨g, 0, none⟩) n cap ∧ base ≤ g ∧ mblk W g = some (.cells cur e (0, 0)) ∧ n ≤ cap ∧ cap ≤ maxLen ∧ cur.size = cap * size ∧ cur.toList.take (n * size) = xs := by
  obtain ⟨_, ⟨_, h0⟩ | ⟨g, cap, cur, rfl, hg, hb, h1, h2, h3, h4⟩⟩ := ho
  · omega
  · exact ⟨g, cap, cur, rfl, hg, hb, h1, h2, h3, h4⟩
theorem lks_set {W : World} {g cap k : Nat} {cur : Array Value} {T : TypeId} {ls : List (Int × Int × Int)} {t l h : Int} (hb : mblk W g = some (.cells (((cur.setIfInBounds (k * 3) (.int .i64 t)).setIfInBounds (k * 3 + 1) (.int .i64 l)).setIfInBounds (k * 3 + 2) (.int .i64 h)) T (0, 0))) (hk : k < ls.length) (hcap : ls.length ≤ cap) (hm : ls.length ≤ 10) (hcs : cur.size = cap * 3) (htk : cur.toList.take (ls.length * 3) = S.flat ls) : Lks W (.slice (some ⟨g, 0, none⟩) ls.length cap) (ls.set k (t, l, h)) := by
  have hgl := blk_lt hb
  have hlen : (ls.set k (t, l, h)).length = ls.length := List.length_set
  refine ⟨some ⟨g, 0, none⟩, cap, by rw [hlen], by omega, by omega, fun _ => ⟨g, 0, rfl, hgl, fun i hi => ?_⟩⟩
  rw [hlen] at hi
  obtain ⟨y0, y1, y2⟩ := S.flat_at ls i hi
  have old : ∀ m u, m < ls.length * 3 → (S.flat ls)[m]? = some u → cur[m]? = some u := fun m u hm h => by
    rw [← htk, List.getElem?_take_of_lt hm, Array.getElem?_toList] at h
    exact h
  have o0 := old _ _ (by omega) y0
  have o1 := old _ _ (by omega) y1
  have o2 := old _ _ (by omega) y2
  rw [Nat.zero_add, cellB hb, cellB hb, cellB hb]
  by_cases e : i = k
  · subst e
    have hg : (ls.set i (t, l, h)).getD i (0, 0, 0) = (t, l, h) := by
      rw [List.getD_eq_getElem?_getD, List.getElem?_set_self hi]
      rfl
    rw [hg]
    refine ⟨?_, ?_, ?_⟩
    · rw [Array.getElem?_setIfInBounds_ne (by omega), Array.getElem?_setIfInBounds_ne (by omega), Array.getElem?_setIfInBounds_self_of_lt (by omega)]
    · rw [Array.getElem?_setIfInBounds_ne (by omega), Array.getElem?_setIfInBounds_self_of_lt (by simp; omega)]
    · rw [Array.getElem?_setIfInBounds_self_of_lt (by simp; omega)]
  · have hg : (ls.set k (t, l, h)).getD i (0, 0, 0) = ls.getD i (0, 0, 0) := by
      rw [List.getD_eq_getElem?_getD, List.getElem?_set_ne (fun q => e q.symm), ← List.getD_eq_getElem?_getD]
    rw [hg]
    refine ⟨?_, ?_, ?_⟩
    · rw [Array.getElem?_setIfInBounds_ne (by omega), Array.getElem?_setIfInBounds_ne (by omega), Array.getElem?_setIfInBounds_ne (by omega)]; exact o0
    · rw [Array.getElem?_setIfInBounds_ne (by omega), Array.getElem?_setIfInBounds_ne (by omega), Array.getElem?_setIfInBounds_ne (by omega)]; exact o1
    · rw [Array.getElem?_setIfInBounds_ne (by omega), Array.getElem?_setIfInBounds_ne (by omega), Array.getElem?_setIfInBounds_ne (by omega)]; exact o2

end Go.Proofs.Ytcadpdbadgejfaa
