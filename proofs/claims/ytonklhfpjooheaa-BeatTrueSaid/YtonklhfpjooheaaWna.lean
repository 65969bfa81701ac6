import Derived.Test.YtonklhfpjooheaaApW
import Derived.Test.YtonklhfpjooheaaTeR
/- What clocks truly were, as the laws' went chooses it: the mathematics, and the rows in memory. -/
namespace Go.Proofs.Ytonklhfpjooheaa
open Go.RowKit

def T.cut (x : Int) : Int := Max.max (-500) (Min.min 500 x)
theorem T.cut_bd (x : Int) : -500 ≤ T.cut x ∧ T.cut x ≤ 500 := by unfold T.cut; omega
theorem T.cut_mono {x y : Int} (h : x ≤ y) : T.cut x ≤ T.cut y := by unfold T.cut; omega
def T.cutO (x : Int × Int × Int × Int) : Int × Int × Int × Int := (x.1, x.2.1, T.cut x.2.2.1, T.cut x.2.2.2)
section
variable {H : Nat} {rs : T.LR} {os : T.LO} {ps ps' : T.LP}
/-- is a comparison one of these clocks and hours, and true of what they show? -/
def T.PrOk (H n : Nat) (d : Int × Int → Int) (x : Int × Int × Int × Int × Int) : Prop :=
  ((0 ≤ x.1 ∧ x.1 ≤ H) ∧ (0 ≤ x.2.1 ∧ x.2.1 < n) ∧ (-1 ≤ x.2.2.1 ∧ x.2.2.1 < n) ∧ x.2.1 ≠ x.2.2.1 ∧ T.Bs 200000 x.2.2.2 ∧ x.2.2.2.1 ≤ x.2.2.2.2) ∧ T.In x.2.2.2 (d (x.2.1, x.1) - d (x.2.2.1, if x.2.2.1 = -1 then 0 else x.1))
theorem T.good_cut (G : T.Good H rs os ps) {d : Int × Int → Int} (hp : ∀ x ∈ ps', T.PrOk H rs.length d x) (hl : ps'.length ≤ 14) : T.Good H rs (os.map T.cutO) ps' where
  h1 := G.h1
  h2 := G.h2
  r1 := G.r1
  r2 := G.r2
  rsB := G.rsB
  osB x hx := by
    obtain ⟨z, hz, rfl⟩ := List.mem_map.1 hx
    obtain ⟨a, b, _, e⟩ := G.osB z hz
    have c1 := T.cut_bd z.2.2.1
    have c2 := T.cut_bd z.2.2.2
    refine ⟨a, b, ⟨⟨?_, ?_⟩, ?_, ?_⟩, T.cut_mono e⟩
    · show -100000 ≤ T.cut z.2.2.1; omega
    · show T.cut z.2.2.1 ≤ 100000; omega
    · show -100000 ≤ T.cut z.2.2.2; omega
    · show T.cut z.2.2.2 ≤ 100000; omega
  o6 := by rw [List.length_map]; exact G.o6
  psB x hx := (hp x hx).1
  p14 := hl
theorem T.gto_cut (G : T.Good H rs os ps) (k h : Int) (hk : k.toNat < rs.length) : ∀ j : Nat, j ≤ os.length → -(1000 + 500 * (j : Int)) ≤ (T.gto rs (os.map T.cutO) k h j).1 ∧ (T.gto rs (os.map T.cutO) k h j).2 ≤ 1000 + 500 * (j : Int)
  | 0, _ => by
    have := G.rsB (rs.getD k.toNat (0, 0)) (by rw [List.getD_eq_getElem?_getD, List.getElem?_eq_getElem hk]; exact List.getElem_mem _)
    obtain ⟨⟨⟨a, b⟩, c, d⟩, e⟩ := this
    rw [T.gto_zero]
    omega
  | j + 1, hj => by
    obtain ⟨a, b⟩ := T.gto_cut G k h hk j (by omega)
    rw [T.gto_succ k h (show j < (os.map T.cutO).length by rw [List.length_map]; omega)]
    have e : (os.map T.cutO).getD j (0, 0, 0, 0) = T.cutO (os.getD j (0, 0, 0, 0)) := by
      rw [List.getD_eq_getElem?_getD, List.getD_eq_getElem?_getD, List.getElem?_map, List.getElem?_eq_getElem (show j < os.length by omega)]
      rfl
    rw [e]
    have c1 : -500 ≤ (T.cutO (os.getD j (0, 0, 0, 0))).2.2.1 ∧ (T.cutO (os.getD j (0, 0, 0, 0))).2.2.1 ≤ 500 := T.cut_bd _
    have c2 : -500 ≤ (T.cutO (os.getD j (0, 0, 0, 0))).2.2.2 ∧ (T.cutO (os.getD j (0, 0, 0, 0))).2.2.2 ≤ 500 := T.cut_bd _
    generalize T.cutO (os.getD j (0, 0, 0, 0)) = z at *
    unfold T.plus
    split
    · simp only
      omega
    · omega
/-- is it a row of what a clock showed, from hour to hour? -/
structure T.Rw (rs : T.LR) (os : T.LO) (k h : Nat) (L : List Int) : Prop where
  len : L.length = h + 1
  beg : -1000 ≤ L.getD 0 0 ∧ L.getD 0 0 ≤ 1000
  step : ∀ i : Nat, i < h → T.In (T.grw rs os k i) (L.getD (i + 1) 0 - L.getD i 0)
theorem T.Rw.one (k : Nat) {n : Int} (h : -1000 ≤ n ∧ n ≤ 1000) : T.Rw rs os k 0 [n] := ⟨rfl, h, fun i hi => absurd hi (Nat.not_lt_zero i)⟩
theorem T.Rw.snoc {k h : Nat} {L : List Int} {n : Int} (r : T.Rw rs os k h L) (hn : T.In (T.grw rs os k h) (n - L.getD h 0)) : T.Rw rs os k (h + 1) (L ++ [n]) ∧ (L ++ [n]).getD (h + 1) 0 = n := by
  have hl := r.len
  have a : ∀ i, i ≤ h → (L ++ [n]).getD i 0 = L.getD i 0 := fun i hi => by
    rw [List.getD_eq_getElem?_getD, List.getD_eq_getElem?_getD, List.getElem?_append_left (by omega)]
  have b : (L ++ [n]).getD (h + 1) 0 = n := by
    rw [List.getD_eq_getElem?_getD, List.getElem?_append_right (by omega), hl, Nat.sub_self]
    rfl
  refine ⟨⟨by rw [List.length_append, hl]; rfl, by rw [a 0 (by omega)]; exact r.beg, fun i hi => ?_⟩, b⟩
  by_cases e : i = h
  · subst e
    rw [b, a i (by omega)]
    exact hn
  · rw [a (i + 1) (by omega), a i (by omega)]
    exact r.step i (by omega)
theorem T.grw_cut (G : T.Good H rs os ps) {k : Nat} (hk : k < rs.length) (h : Int) : -4000 ≤ (T.grw rs (os.map T.cutO) k h).1 ∧ (T.grw rs (os.map T.cutO) k h).2 ≤ 4000 := by
  have := T.gto_cut G (k : Int) h (by omega) os.length (Nat.le_refl _)
  have e : T.gto rs (os.map T.cutO) (k : Int) h os.length = T.grw rs (os.map T.cutO) (k : Int) h := by
    have := T.gto_all (rs := rs) (os := os.map T.cutO) (k : Int) h
    rwa [List.length_map] at this
  rw [e] at this
  have o6 := G.o6
  omega
theorem T.Rw.bd (G : T.Good H rs os ps) {k h : Nat} (hk : k < rs.length) {L : List Int} (r : T.Rw rs (os.map T.cutO) k h L) : ∀ i : Nat, i ≤ h → -(1000 + 4000 * (i : Int)) ≤ L.getD i 0 ∧ L.getD i 0 ≤ 1000 + 4000 * (i : Int)
  | 0, _ => by have := r.beg; omega
  | i + 1, hi => by
    have a := T.Rw.bd G hk r i (by omega)
    have b := r.step i (by omega)
    have c := T.grw_cut G hk i
    unfold T.In at b
    omega
/-- what rows say of moments -/
def T.dof (rows : List (List Int)) (m : Int × Int) : Int := if m.1 < 0 then 0 else (rows.getD m.1.toNat []).getD m.2.toNat 0
theorem T.dof_at (rows : List (List Int)) (k h : Nat) : T.dof rows ((k : Int), (h : Int)) = (rows.getD k []).getD h 0 := by
  unfold T.dof
  rw [if_neg (by show ¬ (k : Int) < 0; omega)]
  rfl
theorem T.dof_0 (rows : List (List Int)) : T.dof rows (-1, 0) = 0 := rfl
theorem T.went_tru (G : T.Good H rs os ps) {rows : List (List Int)} (hl : rows.length = rs.length) (hr : ∀ k, k < rs.length → T.Rw rs (os.map T.cutO) k H (rows.getD k [])) (hp : ∀ x ∈ ps', T.PrOk H rs.length (T.dof rows) x) :
    T.Table H rs rows (T.dof rows) ∧ T.Tr H rs (os.map T.cutO) ps' (T.dof rows) := by
  constructor
  · refine ⟨hl, fun x hx => ?_, T.dof_0 rows, fun k h _ _ => (T.dof_at rows k h).symm⟩
    obtain ⟨i, hi, e⟩ := List.mem_iff_getElem.1 hx
    have := (hr i (by omega)).len
    rw [List.getD_eq_getElem?_getD, List.getElem?_eq_getElem hi] at this
    rw [← e]
    exact this
  · refine ⟨fun k h a b c d => ?_, fun k h a b c d => ?_, fun x hx _ _ => (hp x hx).2⟩
    · obtain ⟨k, rfl⟩ := Int.eq_ofNat_of_zero_le a
      obtain ⟨h, rfl⟩ := Int.eq_ofNat_of_zero_le c
      have q := (hr k (by omega)).bd G (by omega) h (by omega)
      have g2 := G.h2
      rw [T.dof_at, T.dof_0]
      unfold T.In
      simp only
      omega
    · obtain ⟨k, rfl⟩ := Int.eq_ofNat_of_zero_le a
      obtain ⟨h, rfl⟩ := Int.eq_ofNat_of_zero_le c
      have q := (hr k (by omega)).step h (by omega)
      rw [show ((h : Int) + 1) = ((h + 1 : Nat) : Int) by omega, T.dof_at, T.dof_at]
      exact q
end
/-- rows in memory, each in a block of its own, below a number -/
def T.Mrs (w : World) (us : List Value) (rows : List (List Int)) (H k b : Nat) : Prop :=
  us.length = k ∧ rows.length = k ∧ ∀ i, i < k → ∃ g cs cap, us[i]? = some (.slice (some ⟨g, 0, none⟩) (H + 1) cap) ∧ H + 1 ≤ cap ∧ g < b ∧ mblk w g = some (.cells cs 3 (0, 0)) ∧ (rows.getD i []).length = H + 1 ∧ ∀ j, j ≤ H → cs[j]? = some (.int .i64 ((rows.getD i []).getD j 0))
theorem T.Mrs.keep {w w' : World} {us : List Value} {rows : List (List Int)} {H k b b' : Nat} (h : T.Mrs w us rows H k b) (hb : b ≤ b') (hk : ∀ g cs, g < b → mblk w g = some (.cells cs 3 (0, 0)) → mblk w' g = some (.cells cs 3 (0, 0))) : T.Mrs w' us rows H k b' := by
  refine ⟨h.1, h.2.1, fun i hi => ?_⟩
  obtain ⟨g, cs, cap, h1, h2, h3, h4, h5⟩ := h.2.2 i hi
  exact ⟨g, cs, cap, h1, h2, by omega, hk g cs h3 h4, h5⟩
theorem T.Mrs.add {w : World} {us : List Value} {rows : List (List Int)} {H k b g cap : Nat} {cs : Array Value} {L : List Int} (h : T.Mrs w us rows H k b) (h2 : H + 1 ≤ cap) (h3 : g < b) (h4 : mblk w g = some (.cells cs 3 (0, 0))) (hl : L.length = H + 1) (h5 : ∀ j, j ≤ H → cs[j]? = some (.int .i64 (L.getD j 0))) :
    T.Mrs w (us ++ [.slice (some ⟨g, 0, none⟩) (H + 1) cap]) (rows ++ [L]) H (k + 1) b := by
  refine ⟨by rw [List.length_append, h.1]; rfl, by rw [List.length_append, h.2.1]; rfl, fun i hi => ?_⟩
  by_cases e : i < k
  · obtain ⟨g', cs', cap', q⟩ := h.2.2 i e
    have e1 : (rows ++ [L]).getD i [] = rows.getD i [] := by
      rw [List.getD_eq_getElem?_getD, List.getD_eq_getElem?_getD, List.getElem?_append_left (by rw [h.2.1]; exact e)]
    rw [e1]
    exact ⟨g', cs', cap', by rw [List.getElem?_append_left (by rw [h.1]; exact e)]; exact q.1, q.2⟩
  · obtain rfl : i = k := by omega
    have e1 : (rows ++ [L]).getD i [] = L := by
      rw [List.getD_eq_getElem?_getD, List.getElem?_append_right (by rw [h.2.1]; exact Nat.le_refl _), h.2.1, Nat.sub_self]
      rfl
    rw [e1]
    refine ⟨g, cs, cap, ?_, h2, h3, h4, hl, h5⟩
    rw [List.getElem?_append_right (by rw [h.1]; exact Nat.le_refl _), h.1, Nat.sub_self]
    rfl
theorem T.Mrs.rows {w : World} {base b : Nat} {v : Value} {us : List Value} {rows : List (List Int)} {H n : Nat} (h : T.Mrs w us rows H n b) (hH : H ≤ 12) (hR : n ≤ 5) (ho : w.ownsRow base 44 1 v n us) : T.Rows w v rows := by
  have hl := h.2.1
  subst hl
  rcases ho.2 with ⟨rfl, hz⟩ | ⟨g, cap, cur, rfl, hg, hcu, hnc, hcm, hcz, hcc⟩
  · rw [List.eq_nil_of_length_eq_zero hz]
    exact T.Rows.nil _
  · refine ⟨_, _, rfl, hnc, by omega, fun _ => ⟨g, 0, rfl, blk_lt hcu, fun j hj => ?_⟩⟩
    obtain ⟨g', cs', cap', h1, h2, h3, h4, h5, h6⟩ := h.2.2 j hj
    refine ⟨.slice (some ⟨g', 0, none⟩) (H + 1) cap', ?_, ?_⟩
    · have q : cur.toList[j]? = (cur.toList.take (rows.length * 1))[j]? := by rw [List.getElem?_take, if_pos (by omega)]
      rw [Nat.zero_add, cellB hcu, ← Array.getElem?_toList, q, hcc, h1]
    · have := Ints.new (w := w) (g := g') (cap := cap') (xs := rows.getD j []) h4 (by omega) (by omega) (fun i hi => h6 i (by omega))
      rwa [h5] at this
/-- only one of the blocks that there were is not as it was -/
structure T.But (p : Nat) (w w' : World) : Prop where
  size : w.heap.size ≤ w'.heap.size
  blk : ∀ b o, b ≠ p → mblk w b = some o → mblk w' b = some o
theorem T.But.refl (p : Nat) (w : World) : T.But p w w := ⟨Nat.le_refl _, fun _ _ _ h => h⟩
theorem T.But.up {p : Nat} {w w1 w2 : World} (h : T.But p w w1) (u : Up w1 w2) : T.But p w w2 := ⟨Nat.le_trans h.size u.size, fun b o hb q => u.blk (h.blk b o hb q)⟩
theorem T.But.grown {p base size n : Nat} {w w1 w2 : World} {e : TypeId} {v : Value} {xs : List Value} (h : T.But p w w1) (ho : w1.ownsRow base e size v n xs) (hb : w.heap.size ≤ base) (hg : w1.grownBy w2 v.ownBlock) : T.But p w w2 :=
  ⟨Nat.le_trans h.size hg.size, fun b o hb' q => grown_blk hg (h.blk b o hb' q) (row_block ho (Nat.lt_of_lt_of_le (blk_lt q) hb))⟩
theorem T.But.set {p j : Nat} {w w1 : World} (h : T.But p w w1) (v : Value) : T.But p w (w1.setCell ⟨p, j, none⟩ v) :=
  ⟨by have := h.size; simpa [World.setCell] using this, fun b o hb q => by rw [blk_set _ _ _ _ hb]; exact h.blk b o hb q⟩

end Go.Proofs.Ytonklhfpjooheaa
