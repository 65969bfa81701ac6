import Derived.Test.YtoipfakcmnjenaaTel
import Derived.Test.YtoipfakcmnjenaaExa
/- What Case and IsTruth tell, in the words of the chapter. -/
namespace Go.Proofs.Ytoipfakcmnjenaa
open Go.RowKit

section
variable {H : Nat} {rs : T.LR} {os : T.LO} {ps : T.LP} {aR aO aP aV : Option Addr} {nR cR nO cO nP cP nV cV : Nat} {w : World}
/-- rows that are a table of a truth -/
structure T.Table (H : Nat) (rs : T.LR) (rows : List (List Int)) (d : Int × Int → Int) : Prop where
  len : rows.length = rs.length
  row : ∀ x ∈ rows, x.length = H + 1
  zero : d (-1, 0) = 0
  val : ∀ k h : Nat, k < rs.length → h ≤ H → (rows.getD k []).getD h 0 = d ((k : Int), (h : Int))
theorem T.Table.rowk {rows : List (List Int)} {d : Int × Int → Int} (t : T.Table H rs rows d) {k : Nat} (hk : k < rs.length) : (rows.getD k []).length = H + 1 := by
  refine t.row _ ?_
  rw [List.getD_eq_getElem?_getD, List.getElem?_eq_getElem (show k < rows.length by rw [t.len]; exact hk)]
  exact List.getElem_mem _
theorem T.Table.offs {rows : List (List Int)} {d : Int × Int → Int} (t : T.Table H rs rows d) {k h : Int} (hk : 0 ≤ k ∧ k < rs.length) (hh : 0 ≤ h ∧ h ≤ H) : T.offs rows (k, h) = d (k, h) := by
  unfold T.offs T.offsTo
  have hl := t.len
  rw [if_neg (by show ¬ k < 0; omega), if_pos (.inl (by show k < (rows.length : Int); omega))]
  have q := t.val k.toNat h.toNat (by omega) (by omega)
  rw [show ((k.toNat : Nat) : Int) = k by omega, show ((h.toNat : Nat) : Int) = h by omega] at q
  exact q
theorem T.offs0 (rows : List (List Int)) : T.offs rows (-1, 0) = 0 := by
  unfold T.offs T.offsTo
  rw [if_pos (by decide)]
theorem T.Tru.bd {b0 b1 b2 b3 b4 : Bool} {y : Int × Int → Int} (h : T.Tru H rs os ps b0 b1 b2 b3 b4 y) (h0 : y (-1, 0) = 0) {m : Int × Int} (hm : m ∈ T.moms rs.length H) : -100000 ≤ y m ∧ y m ≤ 100000 := by
  obtain ⟨c, j⟩ := m
  rcases T.mem_moms.1 hm with ⟨rfl, rfl⟩ | ⟨⟨a, b⟩, c', d⟩
  · rw [h0]; omega
  · have q := h.lim c j a b c' d
    unfold T.In at q
    rw [h0] at q
    simp only at q
    omega
theorem IsTruth_tells {rows : List (List Int)} (G : T.Good H rs os ps) (h64 : ∀ m ∈ T.moms rs.length H, D.in64 (T.offs rows m)) (IR : T.Rows w (.slice aV nV cV) rows) (I : Sps w (.slice aR nR cR) rs) (IO : Ops w (.slice aO nO cO) os) (IP : Prs w (.slice aP nP cP) ps) :
    Calls Try.prog 15 #[ClV H (.slice aR nR cR) (.slice aO nO cO) (.slice aP nP cP), .slice aV nV cV] w fun e w' => (∃ r, e = .returned (.tuple #[.bool r, .int .i64 0]) ∧ (r = true ↔ (rows.length = rs.length ∧ ∀ x ∈ rows, x.length = H + 1) ∧ T.Tr H rs os ps (T.offs rows))) ∧ Up w w' := by
  have hn := I.len
  subst hn
  have q := IsTruth_ok I IO IP IR (T.web_ok G) (T.valid_good.2 G)
  rwa [T.keep_tru G (T.offs0 rows) h64] at q
theorem IsTruth_table {rows : List (List Int)} {d : Int × Int → Int} (G : T.Good H rs os ps) (t : T.Table H rs rows d) (hd : T.Tr H rs os ps d) (IR : T.Rows w (.slice aV nV cV) rows) (I : Sps w (.slice aR nR cR) rs) (IO : Ops w (.slice aO nO cO) os) (IP : Prs w (.slice aP nP cP) ps) :
    Calls Try.prog 15 #[ClV H (.slice aR nR cR) (.slice aO nO cO) (.slice aP nP cP), .slice aV nV cV] w fun e w' => e = .returned (.tuple #[.bool true, .int .i64 0]) ∧ Up w w' := by
  have e0 : T.Tr H rs os ps (T.offs rows) := hd.congr G (by rw [T.offs0, t.zero]) (fun k h a b c e => t.offs ⟨a, b⟩ ⟨c, e⟩)
  refine (IsTruth_tells G (fun m hm => ?_) IR I IO IP).mono ?_
  · have := e0.bd (T.offs0 rows) hm
    unfold D.in64
    omega
  · rintro e w' ⟨⟨r, rfl, hr⟩, u⟩
    rw [hr.2 ⟨⟨t.len, t.row⟩, e0⟩]
    exact ⟨rfl, u⟩
/-- the case that is told -/
theorem Case_tells {k h : Int} {most : Bool} (G : T.Good H rs os ps) (hk : 0 ≤ k ∧ k < rs.length) (hh : 0 ≤ h ∧ h ≤ H) (hy : ∃ y, T.Tr H rs os ps y) (I : Sps w (.slice aR nR cR) rs) (IO : Ops w (.slice aO nO cO) os) (IP : Prs w (.slice aP nP cP) ps) :
    Calls Try.prog 26 #[ClV H (.slice aR nR cR) (.slice aO nO cO) (.slice aP nP cP), .int .i64 k, .int .i64 h, .bool most] w fun e w' => (∃ v rows d, e = .returned (.tuple #[v, .int .i64 0]) ∧ T.Rows w' v rows ∧ T.Table H rs rows d ∧ T.Tr H rs os ps d ∧ ∀ k' h' lo hi : Int, 0 ≤ k' → k' < rs.length → 0 ≤ h' → h' ≤ H → T.Tells H rs os ps (k', h') (-1, 0) lo hi 0 → d (k', h') = if most then hi else lo) ∧ Up w w' := by
  have hn := I.len
  subst hn
  have W := T.web_ok (b0 := false) (b1 := false) (b2 := false) (b3 := false) (b4 := false) G
  have hq := T.ask0 G (cl := [k]) (hr := [h]) (by simpa using hk) (by simpa using hh)
  have m0 := T.mom_0 (n := rs.length) (H := H)
  obtain ⟨y, hy⟩ := hy
  have hl := fun (o : Int × Int → Int) (sg : Int) => T.rws_len (o := o) (sg := sg) (n := rs.length) (H := H)
  cases most with
  | true =>
    refine (Case_hi I IO IP W hq).mono ?_
    rintro e w' ⟨⟨v, n, cs, r, rfl, hF, hc⟩, u⟩
    rcases W.yes G.h2 G.r2 m0 hF with ⟨hr, d, d1, d2, d3, d4⟩ | ⟨_, _, hno⟩
    · rcases hc with ⟨_, rfl, hR⟩ | ⟨hr', _⟩
      · have T1 := (T.sat_tru G).1 d1
        refine ⟨⟨v, _, d, rfl, hR d d3, ⟨(hl d 1).1, (hl d 1).2, d2, fun k h hk hh => ?_⟩, T1, fun k' h' lo hi a b c e q => ?_⟩, u⟩
        · rw [T.rws_at hk hh, Int.mul_one]
          have := T1.bd d2 (T.mom_in (n := rs.length) (H := H) (k := k) (h := h) ⟨by omega, by omega⟩ ⟨by omega, by omega⟩)
          exact IntWalk.i64_in _ (by omega)
        · obtain ⟨p, _, z, hz, s⟩ := q.yes
          have p1 := p d T1
          have p2 := d4 z ((T.sat_tru G).2 hz) (k', h') (T.mom_in ⟨a, b⟩ ⟨c, e⟩)
          rw [if_pos rfl]
          omega
      · rw [hr] at hr'; cases hr'
    · exact absurd ((T.sat_tru G).2 hy) (hno y)
  | false =>
    refine (Case_lo I IO IP W hq).mono ?_
    rintro e w' ⟨⟨v, n, cs, r, rfl, hF, hc⟩, u⟩
    rcases W.yes' G.h2 G.r2 m0 hF with ⟨hr, d, d1, d2, d3, d4⟩ | ⟨_, _, hno⟩
    · rcases hc with ⟨_, rfl, hR⟩ | ⟨hr', _⟩
      · have T1 := (T.sat_tru G).1 d1
        refine ⟨⟨v, _, fun m => -d m, rfl, hR d d3, ⟨(hl d (-1)).1, (hl d (-1)).2, by simp only [d2]; rfl, fun k h hk hh => ?_⟩, T1, fun k' h' lo hi a b c e q => ?_⟩, u⟩
        · rw [T.rws_at hk hh]
          have := T1.bd (by simp only [d2]; rfl) (T.mom_in (n := rs.length) (H := H) (k := k) (h := h) ⟨by omega, by omega⟩ ⟨by omega, by omega⟩)
          rw [show d ((k : Int), (h : Int)) * -1 = -d ((k : Int), (h : Int)) by omega]
          exact IntWalk.i64_in _ (by omega)
        · obtain ⟨p, ⟨z, hz, s⟩, _⟩ := q.yes
          have p1 : lo ≤ -d (k', h') - -d (-1, 0) ∧ -d (k', h') - -d (-1, 0) ≤ hi := p _ T1
          have p2 := d4 z ((T.sat_tru G).2 hz) (k', h') (T.mom_in ⟨a, b⟩ ⟨c, e⟩)
          rw [d2] at p1
          rw [if_neg (by decide)]
          show -d (k', h') = lo
          omega
      · rw [hr] at hr'; cases hr'
    · exact absurd ((T.sat_tru G).2 hy) (hno y)
end

end Go.Proofs.Ytoipfakcmnjenaa
