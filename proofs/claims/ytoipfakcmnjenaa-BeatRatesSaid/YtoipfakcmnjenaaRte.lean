import Derived.Test.YtoipfakcmnjenaaMon
import Derived.Test.YtoipfakcmnjenaaCst
/- Growth hour by hour, openings that add nothing, the best clock. -/
namespace Go.Proofs.Ytoipfakcmnjenaa
open Go.RowKit

section
variable {H H' : Nat} {rs rs' : T.LR} {os os' : T.LO} {ps ps' : T.LP} {m1 m2 : Int × Int} {l h e l' h' e' : Int}
theorem T.Tells.move (G' : T.Good H' rs' os' ps') (hm : ∀ y, T.Tr H rs os ps y ↔ T.Tr H' rs' os' ps' y) (h1 : m1 ∈ T.moms rs'.length H') (h2 : m2 ∈ T.moms rs'.length H') (t : T.Tells H rs os ps m1 m2 l h e) : T.Tells H' rs' os' ps' m1 m2 l h e := by
  obtain ⟨l', h', e', t'⟩ := T.Tells.ex G' h1 h2
  obtain ⟨rfl, rfl, rfl⟩ := t.congr hm t'
  exact t'
/-- the growth by the first openings -/
def T.gto (rs : T.LR) (os : T.LO) (k h : Int) (j : Nat) : Int × Int := (os.take j).foldl (T.plus k h) (rs.getD k.toNat (0, 0))
theorem T.gto_zero (k h : Int) : T.gto rs os k h 0 = rs.getD k.toNat (0, 0) := rfl
theorem T.gto_all (k h : Int) : T.gto rs os k h os.length = T.grw rs os k h := by
  unfold T.gto
  rw [List.take_length]
  rfl
theorem T.gto_succ (k h : Int) {j : Nat} (hj : j < os.length) : T.gto rs os k h (j + 1) = T.plus k h (T.gto rs os k h j) (os.getD j (0, 0, 0, 0)) := by
  unfold T.gto
  have e : os.getD j (0, 0, 0, 0) = os[j] := by rw [List.getD_eq_getElem?_getD, List.getElem?_eq_getElem hj]; rfl
  rw [List.take_add_one, List.getElem?_eq_getElem hj, List.foldl_append, e]
  rfl
theorem T.gto_bd (G : T.Good H rs os ps) (k h : Int) (hk : k.toNat < rs.length) : ∀ j : Nat, j ≤ os.length → -(1000 + 100000 * (j : Int)) ≤ (T.gto rs os k h j).1 ∧ (T.gto rs os k h j).2 ≤ 1000 + 100000 * (j : Int) ∧ (T.gto rs os k h j).1 ≤ (T.gto rs os k h j).2
  | 0, _ => by
    rw [T.gto_zero, List.getD_eq_getElem?_getD, List.getElem?_eq_getElem hk]
    have q := G.rsB rs[k.toNat] (List.getElem_mem _)
    unfold T.Bs at q
    simp only [Option.getD_some]
    omega
  | j + 1, hj => by
    have ih := T.gto_bd G k h hk j (by omega)
    rw [T.gto_succ k h (by omega)]
    have q := G.osB (os.getD j (0, 0, 0, 0)) (by
      rw [List.getD_eq_getElem?_getD, List.getElem?_eq_getElem (show j < os.length by omega)]
      exact List.getElem_mem _)
    generalize os.getD j (0, 0, 0, 0) = x at *
    generalize T.gto rs os k h j = s at *
    obtain ⟨x1, x2, x3, x4⟩ := x
    unfold T.Bs at q
    unfold T.plus
    simp only at q
    split <;> (try simp only) <;> omega
theorem T.good_snoc (G : T.Good H rs os ps) {k h : Int} (hk : 0 ≤ k ∧ k < rs.length) (hh : 0 ≤ h ∧ h < H) (ho : os.length < 6) : T.Good H rs (os ++ [(k, h, 0, 0)]) ps where
  h1 := G.h1
  h2 := G.h2
  r1 := G.r1
  r2 := G.r2
  rsB := G.rsB
  osB x hx := by
    rcases List.mem_append.1 hx with hx | hx
    · exact G.osB x hx
    · obtain rfl := List.mem_singleton.1 hx
      exact ⟨hk, hh, ⟨⟨by show (-100000 : Int) ≤ 0; omega, by show (0 : Int) ≤ 100000; omega⟩, by show (-100000 : Int) ≤ 0; omega, by show (0 : Int) ≤ 100000; omega⟩, by show (0 : Int) ≤ 0; omega⟩
  o6 := by rw [List.length_append, List.length_singleton]; omega
  psB := G.psB
  p14 := G.p14
theorem T.grw_zero (k h k' h' : Int) : T.grw rs (os ++ [(k', h', 0, 0)]) k h = T.grw rs os k h := by
  rw [T.grw_snoc]
  unfold T.plus
  split
  · simp only [Int.add_zero]
  · rfl
theorem T.tr_zero {k h : Int} (y : Int × Int → Int) : T.Tr H rs os ps y ↔ T.Tr H rs (os ++ [(k, h, 0, 0)]) ps y := by
  constructor
  · exact fun a => ⟨a.lim, fun k' h' q1 q2 q3 q4 => by rw [T.grw_zero]; exact a.grow k' h' q1 q2 q3 q4, a.cmp⟩
  · exact fun a => ⟨a.lim, fun k' h' q1 q2 q3 q4 => by have := a.grow k' h' q1 q2 q3 q4; rwa [T.grw_zero] at this, a.cmp⟩
/-- a clock gains in an hour no more than it can -/
theorem T.Tells.gain {k j : Int} (hk : 0 ≤ k ∧ k < rs.length) (hj : 0 ≤ j ∧ j < H) (t : T.Tells H rs os ps (k, j + 1) (k, j) l h 0) : (T.grw rs os k j).1 ≤ l ∧ h ≤ (T.grw rs os k j).2 := by
  obtain ⟨_, ⟨y, y1, y2⟩, z, z1, z2⟩ := t.yes
  have a := y1.grow k j hk.1 hk.2 hj.1 hj.2
  have b := z1.grow k j hk.1 hk.2 hj.1 hj.2
  unfold T.In at a b
  omega
/-- the first of the least -/
theorem T.bst_is (wd : Nat → Int) : ∀ n : Nat, 1 ≤ n → (T.bst wd n).1 < n ∧ (T.bst wd n).2 = wd (T.bst wd n).1 ∧ (∀ j, j < n → (T.bst wd n).2 ≤ wd j) ∧ ∀ j, j < (T.bst wd n).1 → (T.bst wd n).2 < wd j
  | 0, h => absurd h (by omega)
  | 1, _ => by
    have e : T.bst wd 1 = (0, wd 0) := by
      show (if 0 = 0 ∨ wd 0 < (T.bst wd 0).2 then (0, wd 0) else T.bst wd 0) = _
      rw [if_pos (.inl rfl)]
    rw [e]
    refine ⟨by show 0 < 1; omega, rfl, fun j hj => ?_, fun j hj => absurd hj (by show ¬ j < 0; omega)⟩
    obtain rfl : j = 0 := by omega
    exact Int.le_refl _
  | n + 2, _ => by
    obtain ⟨i1, i2, i3, i4⟩ := T.bst_is wd (n + 1) (by omega)
    by_cases c : wd (n + 1) < (T.bst wd (n + 1)).2
    · have e : T.bst wd (n + 2) = (n + 1, wd (n + 1)) := by
        show (if n + 1 = 0 ∨ wd (n + 1) < (T.bst wd (n + 1)).2 then (n + 1, wd (n + 1)) else T.bst wd (n + 1)) = _
        rw [if_pos (.inr c)]
      rw [e]
      refine ⟨by show n + 1 < n + 2; omega, rfl, fun j hj => ?_, fun j hj => ?_⟩
      · by_cases q : j = n + 1
        · subst q; exact Int.le_refl _
        · have := i3 j (by omega)
          show wd (n + 1) ≤ wd j
          omega
      · have hj : j < n + 1 := hj
        have := i3 j hj
        show wd (n + 1) < wd j
        omega
    · have e : T.bst wd (n + 2) = T.bst wd (n + 1) := by
        show (if n + 1 = 0 ∨ wd (n + 1) < (T.bst wd (n + 1)).2 then (n + 1, wd (n + 1)) else T.bst wd (n + 1)) = _
        rw [if_neg (by rintro (q | q); omega; exact c q)]
      rw [e]
      refine ⟨by omega, i2, fun j hj => ?_, i4⟩
      by_cases q : j = n + 1
      · subst q; omega
      · exact i3 j (by omega)
end
section
variable {H : Nat} {rs : T.LR} {os : T.LO} {ps : T.LP} {aR aO aP : Option Addr} {nR cR nO cO nP cP : Nat}
theorem Best_tells {h : Int} (G : T.Good H rs os ps) (hh : 0 ≤ h ∧ h ≤ H) (hy : ∃ y, T.Tr H rs os ps y) :
    ∃ (b : Nat) (lo hi : Int), b < rs.length ∧ T.Tells H rs os ps ((b : Int), h) (-1, 0) lo hi 0 ∧ (∀ (j : Nat) (l' h' : Int), j < rs.length → T.Tells H rs os ps ((j : Int), h) (-1, 0) l' h' 0 → hi - lo ≤ h' - l' ∧ (j < b → hi - lo < h' - l')) ∧
      ∀ w, Sps w (.slice aR nR cR) rs → Ops w (.slice aO nO cO) os → Prs w (.slice aP nP cP) ps → Calls Try.prog 30 #[ClV H (.slice aR nR cR) (.slice aO nO cO) (.slice aP nP cP), .int .i64 h] w fun e w' => e = .returned (.tuple #[.int .i64 b, .int .i64 (hi - lo), .int .i64 0]) ∧ Up w w' := by
  have ex : ∀ k : Nat, ∃ s : Int × Int, k < rs.length → T.Tells H rs os ps ((k : Int), h) (-1, 0) s.1 s.2 0 := fun k => by
    by_cases hk : k < rs.length
    · obtain ⟨l, u, e, t⟩ := T.Tells.ex G (T.mom_in (n := rs.length) (k := k) ⟨by omega, by omega⟩ hh) T.mom_0
      obtain ⟨y, hy⟩ := hy
      rcases t with ⟨rfl, q⟩ | ⟨_, _, _, hn⟩
      · exact ⟨(l, u), fun _ => .inl ⟨rfl, q⟩⟩
      · exact absurd hy (hn y)
    · exact ⟨(0, 0), fun q => absurd q hk⟩
  obtain ⟨S, hS⟩ := Classical.skolem.1 ex
  have r1 := G.r1
  obtain ⟨b1, b2, b3, b4⟩ := T.bst_is (fun k => (S k).2 - (S k).1) rs.length r1
  refine ⟨(T.bst (fun k => (S k).2 - (S k).1) rs.length).1, (S (T.bst (fun k => (S k).2 - (S k).1) rs.length).1).1, (S (T.bst (fun k => (S k).2 - (S k).1) rs.length).1).2, b1, hS _ b1, fun j l' h' hj t => ?_, fun w I IO IP => ?_⟩
  · obtain ⟨rfl, rfl, _⟩ := t.congr (fun y => Iff.rfl) (hS j hj)
    have c1 := b3 j hj
    rw [b2] at c1
    refine ⟨c1, fun hb => ?_⟩
    have c2 := b4 j hb
    rw [b2] at c2
    exact c2
  · have hn := I.len
    subst hn
    have q := Best_ok I IO IP (T.web_ok G) (T.ask0 G (cl := []) (hr := [h]) (by simp) (by simpa using hh)) (Lo := fun k => (S k).1) (Hi := fun k => (S k).2) (fun k hk => by
      rcases (T.tells_asked G).2 (hS k hk) with ⟨_, a⟩ | ⟨a, _⟩
      · exact a
      · exact absurd a (by omega))
    rw [b2] at q
    exact q
theorem Best_none {h : Int} (G : T.Good H rs os ps) (hh : 0 ≤ h ∧ h ≤ H) (hy : ∀ y, ¬ T.Tr H rs os ps y) {w : World} (I : Sps w (.slice aR nR cR) rs) (IO : Ops w (.slice aO nO cO) os) (IP : Prs w (.slice aP nP cP) ps) :
    Calls Try.prog 30 #[ClV H (.slice aR nR cR) (.slice aO nO cO) (.slice aP nP cP), .int .i64 h] w fun e w' => e = .returned (.tuple #[.int .i64 0, .int .i64 0, .int .i64 22]) ∧ Up w w' := by
  have hn := I.len
  subst hn
  exact Best_false I IO IP (T.web_ok G) (T.ask0 G (cl := []) (hr := [h]) (by simp) (by simpa using hh)) (fun y hs => hy y ((T.sat_tru G).1 hs))
end

end Go.Proofs.Ytoipfakcmnjenaa
