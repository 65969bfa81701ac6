import Derived.Test.YtcmdaiklkdeanaaTrI
import Derived.Test.YtcmdaiklkdeanaaExp
import Derived.Test.YtcmdaiklkdeanaaExa
/- What Offset, Apart and Drift tell, in the words of the chapter: over all truths. -/
namespace Go.Proofs.Ytcmdaiklkdeanaa
open Go.RowKit

abbrev T.LR := List (Int × Int)
abbrev T.LO := List (Int × Int × Int × Int)
abbrev T.LP := List (Int × Int × Int × Int × Int)
/-- a truth of a cellar, no clock left out -/
abbrev T.Tr (H : Nat) (rs : T.LR) (os : T.LO) (ps : T.LP) (y : Int × Int → Int) : Prop := T.Tru H rs os ps false false false false false y
/-- between what it lies how far one moment is above another one, in all truths; or that there is none -/
def T.Tells (H : Nat) (rs : T.LR) (os : T.LO) (ps : T.LP) (m1 m2 : Int × Int) (l h e : Int) : Prop :=
  (e = 0 ∧ (∀ y, T.Tr H rs os ps y → l ≤ y m1 - y m2 ∧ y m1 - y m2 ≤ h) ∧ (∃ y, T.Tr H rs os ps y ∧ y m1 - y m2 = l) ∧ ∃ y, T.Tr H rs os ps y ∧ y m1 - y m2 = h) ∨ (e = 22 ∧ l = 0 ∧ h = 0 ∧ ∀ y, ¬ T.Tr H rs os ps y)

section
variable {H H' : Nat} {rs rs' : T.LR} {os os' : T.LO} {ps ps' : T.LP} {m1 m2 m3 m4 : Int × Int} {l h e l' h' e' a b c d e1 e2 : Int}
theorem T.tells_asked (G : T.Good H rs os ps) : T.Asked (T.web rs.length H rs os ps false false false false false) m1 m2 l h e ↔ T.Tells H rs os ps m1 m2 l h e := by
  unfold T.Tells T.Asked T.Told
  simp only [T.sat_tru G]
theorem T.Tells.ex (G : T.Good H rs os ps) (h1 : m1 ∈ T.moms rs.length H) (h2 : m2 ∈ T.moms rs.length H) : ∃ l h e, T.Tells H rs os ps m1 m2 l h e := by
  obtain ⟨l, h, e, q⟩ := T.asked_ex (T.web_ok (b0 := false) (b1 := false) (b2 := false) (b3 := false) (b4 := false) G) G.h2 G.r2 h1 h2
  exact ⟨l, h, e, (T.tells_asked G).1 q⟩
theorem T.Tells.err (T1 : T.Tells H rs os ps m1 m2 l h e) : e = 0 ∨ (e = 22 ∧ l = 0 ∧ h = 0) := by
  rcases T1 with ⟨a, _⟩ | ⟨a, b, c, _⟩
  · exact .inl a
  · exact .inr ⟨a, b, c⟩
theorem T.Tells.same (T1 : T.Tells H rs os ps m1 m2 l h e) (T2 : T.Tells H rs os ps m3 m4 l' h' e') : e = e' := by
  rcases T1 with ⟨rfl, _, ⟨y, hy, _⟩, _⟩ | ⟨rfl, _, _, hn⟩
  · rcases T2 with ⟨rfl, _⟩ | ⟨_, _, _, hn⟩
    · rfl
    · exact absurd hy (hn y)
  · rcases T2 with ⟨_, _, ⟨y, hy, _⟩, _⟩ | ⟨rfl, _⟩
    · exact absurd hy (hn y)
    · rfl
theorem T.Tells.yes (T1 : T.Tells H rs os ps m1 m2 l h 0) : (∀ y, T.Tr H rs os ps y → l ≤ y m1 - y m2 ∧ y m1 - y m2 ≤ h) ∧ (∃ y, T.Tr H rs os ps y ∧ y m1 - y m2 = l) ∧ ∃ y, T.Tr H rs os ps y ∧ y m1 - y m2 = h := by
  rcases T1 with ⟨_, a⟩ | ⟨a, _⟩
  · exact a
  · exact absurd a (by omega)
theorem T.Tells.no (T1 : T.Tells H rs os ps m1 m2 l h e) (he : e ≠ 0) : e = 22 ∧ l = 0 ∧ h = 0 ∧ ∀ y, ¬ T.Tr H rs os ps y := by
  rcases T1 with ⟨a, _⟩ | a
  · exact absurd a he
  · exact a
theorem T.Tells.bd (G : T.Good H rs os ps) (h1 : m1 ∈ T.moms rs.length H) (h2 : m2 ∈ T.moms rs.length H) (T1 : T.Tells H rs os ps m1 m2 l h e) : -200000 ≤ l ∧ l ≤ h ∧ h ≤ 200000 := by
  rcases T1 with ⟨_, p, ⟨y, hy, r⟩, z, hz, s⟩ | ⟨_, rfl, rfl, _⟩
  · have W := T.web_ok (b0 := false) (b1 := false) (b2 := false) (b3 := false) (b4 := false) G
    have q1 := W.far y ((T.sat_tru G).2 hy) m2 h2 m1 h1
    have q2 := W.far z ((T.sat_tru G).2 hz) m1 h1 m2 h2
    have q3 := p y hy
    omega
  · omega
theorem T.Tells.flip (T1 : T.Tells H rs os ps m1 m2 l h 0) (T2 : T.Tells H rs os ps m2 m1 l' h' e') : e' = 0 ∧ l' = -h ∧ h' = -l := by
  obtain rfl := T1.same T2
  obtain ⟨p, ⟨y, hy, r⟩, z, hz, s⟩ := T1.yes
  obtain ⟨p', ⟨y', hy', r'⟩, z', hz', s'⟩ := T2.yes
  have a1 := p y' hy'
  have a2 := p z' hz'
  have a3 := p' y hy
  have a4 := p' z hz
  refine ⟨rfl, ?_, ?_⟩ <;> omega
theorem T.Tells.tri (T1 : T.Tells H rs os ps m1 m2 l h 0) (T2 : T.Tells H rs os ps m1 m3 a b e1) (T3 : T.Tells H rs os ps m3 m2 c d e2) : e1 = 0 ∧ e2 = 0 ∧ a + c ≤ l ∧ h ≤ b + d := by
  obtain rfl := T1.same T2
  obtain rfl := T1.same T3
  obtain ⟨p, ⟨y, hy, r⟩, z, hz, s⟩ := T1.yes
  have p2 := T2.yes.1
  have p3 := T3.yes.1
  have a1 := p2 y hy
  have a2 := p2 z hz
  have a3 := p3 y hy
  have a4 := p3 z hz
  refine ⟨rfl, rfl, ?_, ?_⟩ <;> omega
theorem T.Tells.dif (T1 : T.Tells H rs os ps m1 m2 l h 0) (T2 : T.Tells H rs os ps m1 m3 a b e1) (T3 : T.Tells H rs os ps m2 m3 c d e2) : e1 = 0 ∧ e2 = 0 ∧ a - d ≤ l ∧ h ≤ b - c := by
  obtain rfl := T1.same T2
  obtain rfl := T1.same T3
  obtain ⟨p, ⟨y, hy, r⟩, z, hz, s⟩ := T1.yes
  have p2 := T2.yes.1
  have p3 := T3.yes.1
  have a1 := p2 y hy
  have a2 := p2 z hz
  have a3 := p3 y hy
  have a4 := p3 z hz
  refine ⟨rfl, rfl, ?_, ?_⟩ <;> omega
theorem T.Tells.self (T1 : T.Tells H rs os ps m1 m1 l h 0) : l = 0 ∧ h = 0 := by
  obtain ⟨p, ⟨y, hy, r⟩, z, hz, s⟩ := T1.yes
  constructor <;> omega
theorem T.Tells.wider (hm : ∀ y, T.Tr H rs os ps y → T.Tr H' rs' os' ps' y) (T1 : T.Tells H rs os ps m1 m2 l h e) (T2 : T.Tells H' rs' os' ps' m1 m2 l' h' e') : (e = 22 ∧ l = 0 ∧ h = 0) ∨ (e = 0 ∧ e' = 0 ∧ l' ≤ l ∧ h ≤ h') := by
  rcases T1 with ⟨rfl, p, ⟨y, hy, r⟩, z, hz, s⟩ | ⟨a, b, c, _⟩
  · rcases T2 with ⟨rfl, p', _⟩ | ⟨_, _, _, hn⟩
    · have a1 := p' y (hm y hy)
      have a2 := p' z (hm z hz)
      exact .inr ⟨rfl, rfl, by omega, by omega⟩
    · exact absurd (hm y hy) (hn y)
  · exact .inl ⟨a, b, c⟩
theorem T.Tells.congr (hm : ∀ y, T.Tr H rs os ps y ↔ T.Tr H' rs' os' ps' y) (T1 : T.Tells H rs os ps m1 m2 l h e) (T2 : T.Tells H' rs' os' ps' m1 m2 l' h' e') : l = l' ∧ h = h' ∧ e = e' := by
  rcases T1.wider (fun y => (hm y).1) T2 with ⟨rfl, rfl, rfl⟩ | ⟨rfl, rfl, p, q⟩
  · rcases T2.wider (fun y => (hm y).2) T1 with ⟨rfl, rfl, rfl⟩ | ⟨_, x, _⟩
    · exact ⟨rfl, rfl, rfl⟩
    · exact absurd x (by omega)
  · rcases T2.wider (fun y => (hm y).2) T1 with ⟨x, _⟩ | ⟨_, _, p', q'⟩
    · exact absurd x (by omega)
    · exact ⟨by omega, by omega, rfl⟩
theorem T.mom_in {n H : Nat} {k h : Int} (hk : 0 ≤ k ∧ k < n) (hh : 0 ≤ h ∧ h ≤ H) : (k, h) ∈ T.moms n H := T.mem_moms.2 (.inr ⟨hk, hh⟩)
theorem T.mom_0 {n H : Nat} : ((-1 : Int), (0 : Int)) ∈ T.moms n H := T.mem_moms.2 (.inl ⟨rfl, rfl⟩)
theorem T.ask0 (G : T.Good H rs os ps) {cl hr : List Int} (hc : ∀ k ∈ cl, 0 ≤ k ∧ k < rs.length) (hh : ∀ k ∈ hr, 0 ≤ k ∧ k ≤ H) : T.askErr H rs os ps cl hr = 0 := by
  unfold T.askErr
  rw [if_neg (by rw [T.valid_good.2 G]; decide), if_neg ?_]
  have e1 : cl.all (T.clkP rs.length) = true := List.all_eq_true.2 fun k hk => inB_yes (hc k hk).1 (by have := (hc k hk).2; omega)
  have e2 : hr.all (T.hrP H) = true := List.all_eq_true.2 fun k hk => inB_yes (hh k hk).1 (hh k hk).2
  rw [e1, e2]
  decide
end
section
variable {H : Nat} {rs : T.LR} {os : T.LO} {ps : T.LP} {aR aO aP : Option Addr} {nR cR nO cO nP cP : Nat} {lo hi eE : Int} {w : World}
theorem Offset_tells {k h : Int} (G : T.Good H rs os ps) (hk : 0 ≤ k ∧ k < rs.length) (hh : 0 ≤ h ∧ h ≤ H) (q : T.Tells H rs os ps (k, h) (-1, 0) lo hi eE) (I : Sps w (.slice aR nR cR) rs) (IO : Ops w (.slice aO nO cO) os) (IP : Prs w (.slice aP nP cP) ps) :
    Calls Try.prog 19 #[ClV H (.slice aR nR cR) (.slice aO nO cO) (.slice aP nP cP), .int .i64 k, .int .i64 h] w fun e w' => e = .returned (.tuple #[SpV lo hi, .int .i64 eE]) ∧ Up w w' := by
  have hn := I.len
  subst hn
  exact Offset_ok I IO IP (T.web_ok G) (T.ask0 G (by simpa using hk) (by simpa using hh)) ((T.tells_asked G).2 q)
theorem Apart_tells {k i h : Int} (G : T.Good H rs os ps) (hk : 0 ≤ k ∧ k < rs.length) (hi' : 0 ≤ i ∧ i < rs.length) (hh : 0 ≤ h ∧ h ≤ H) (q : T.Tells H rs os ps (k, h) (i, h) lo hi eE) (I : Sps w (.slice aR nR cR) rs) (IO : Ops w (.slice aO nO cO) os) (IP : Prs w (.slice aP nP cP) ps) :
    Calls Try.prog 22 #[ClV H (.slice aR nR cR) (.slice aO nO cO) (.slice aP nP cP), .int .i64 k, .int .i64 i, .int .i64 h] w fun e w' => e = .returned (.tuple #[SpV lo hi, .int .i64 eE]) ∧ Up w w' := by
  have hn := I.len
  subst hn
  exact Apart_ok I IO IP (T.web_ok G) (T.ask0 G (by simpa using ⟨hk, hi'⟩) (by simpa using hh)) ((T.tells_asked G).2 q)
theorem Drift_tells {k f u : Int} (G : T.Good H rs os ps) (hk : 0 ≤ k ∧ k < rs.length) (hf : 0 ≤ f ∧ f ≤ H) (hu : 0 ≤ u ∧ u ≤ H) (q : T.Tells H rs os ps (k, u) (k, f) lo hi eE) (I : Sps w (.slice aR nR cR) rs) (IO : Ops w (.slice aO nO cO) os) (IP : Prs w (.slice aP nP cP) ps) :
    Calls Try.prog 24 #[ClV H (.slice aR nR cR) (.slice aO nO cO) (.slice aP nP cP), .int .i64 k, .int .i64 f, .int .i64 u] w fun e w' => e = .returned (.tuple #[SpV lo hi, .int .i64 eE]) ∧ Up w w' := by
  have hn := I.len
  subst hn
  exact Drift_ok I IO IP (T.web_ok G) (T.ask0 G (by simpa using hk) (by simpa using ⟨hf, hu⟩)) ((T.tells_asked G).2 q)
end

end Go.Proofs.Ytcmdaiklkdeanaa

/- How truths of cellars hang together: wider, fewer, other orders; growth by sums. -/
namespace Go.Proofs.Ytcmdaiklkdeanaa
open Go.RowKit

section
variable {H : Nat} {rs rs' : T.LR} {os os' : T.LO} {ps ps' : T.LP} {b0 b1 b2 b3 b4 : Bool} {y : Int × Int → Int}
theorem T.Tru.mono (hl : rs'.length = rs.length) (hg : ∀ k h n : Int, 0 ≤ k → k < rs.length → 0 ≤ h → h < H → T.In (T.grw rs os k h) n → T.In (T.grw rs' os' k h) n)
    (hc : ∀ x ∈ ps', ∃ z ∈ ps, z.1 = x.1 ∧ z.2.1 = x.2.1 ∧ z.2.2.1 = x.2.2.1 ∧ ∀ n, T.In z.2.2.2 n → T.In x.2.2.2 n) (h : T.Tru H rs os ps b0 b1 b2 b3 b4 y) : T.Tru H rs' os' ps' b0 b1 b2 b3 b4 y where
  lim k m a b c d := h.lim k m a (by rw [← hl]; exact b) c d
  grow k m a b c d := hg k m _ a (by rw [← hl]; exact b) c d (h.grow k m a (by rw [← hl]; exact b) c d)
  cmp x hx q1 q2 := by
    obtain ⟨z, hz, e1, e2, e3, e4⟩ := hc x hx
    have := h.cmp z hz (by rw [e2]; exact q1) (by rw [e3]; exact q2)
    rw [e1, e2, e3] at this
    exact e4 _ this
/-- what an opening adds -/
def T.plus (k h : Int) (s : Int × Int) (x : Int × Int × Int × Int) : Int × Int := if x.1 = k ∧ x.2.1 = h then (s.1 + x.2.2.1, s.2 + x.2.2.2) else s
theorem T.grw_fold (k h : Int) : T.grw rs os k h = os.foldl (T.plus k h) (rs.getD k.toNat (0, 0)) := rfl
theorem T.plus_comm (k h : Int) (s : Int × Int) (x z : Int × Int × Int × Int) : T.plus k h (T.plus k h s x) z = T.plus k h (T.plus k h s z) x := by
  unfold T.plus
  split <;> split <;> simp only [Prod.mk.injEq] <;> omega
theorem T.grw_perm (p : os.Perm os') (k h : Int) : T.grw rs os k h = T.grw rs os' k h := by
  rw [T.grw_fold, T.grw_fold]
  exact p.foldl_eq' (fun x _ z _ s => T.plus_comm k h s x z) _
theorem T.grw_snoc (x : Int × Int × Int × Int) (k h : Int) : T.grw rs (os ++ [x]) k h = T.plus k h (T.grw rs os k h) x := by
  rw [T.grw_fold, T.grw_fold, List.foldl_append]
  rfl
/-- one span holds another one -/
def T.Wd (s s' : Int × Int) : Prop := s'.1 ≤ s.1 ∧ s.2 ≤ s'.2
theorem T.Wd.inn {s s' : Int × Int} (w : T.Wd s s') {n : Int} (h : T.In s n) : T.In s' n := by
  unfold T.Wd at w
  unfold T.In at h ⊢
  omega
theorem T.Wd.refl (s : Int × Int) : T.Wd s s := ⟨Int.le_refl _, Int.le_refl _⟩
theorem T.Wd.plus {s s' : Int × Int} (w : T.Wd s s') {x x' : Int × Int × Int × Int} (e1 : x'.1 = x.1) (e2 : x'.2.1 = x.2.1) (e3 : T.Wd x.2.2 x'.2.2) (k h : Int) : T.Wd (T.plus k h s x) (T.plus k h s' x') := by
  unfold T.plus
  rw [e1, e2]
  unfold T.Wd at *
  split
  · simp only
    omega
  · exact w
theorem T.Wd.fold : ∀ {os os' : T.LO} {s s' : Int × Int}, T.Wd s s' → os'.length = os.length → (∀ j, j < os.length → (os'.getD j (0, 0, 0, 0)).1 = (os.getD j (0, 0, 0, 0)).1 ∧ (os'.getD j (0, 0, 0, 0)).2.1 = (os.getD j (0, 0, 0, 0)).2.1 ∧ T.Wd (os.getD j (0, 0, 0, 0)).2.2 (os'.getD j (0, 0, 0, 0)).2.2) → ∀ k h, T.Wd (os.foldl (T.plus k h) s) (os'.foldl (T.plus k h) s')
  | [], [], s, s', w, _, _, k, h => w
  | [], _ :: _, _, _, _, hl, _, _, _ => by simp at hl
  | _ :: _, [], _, _, _, hl, _, _, _ => by simp at hl
  | x :: os, x' :: os', s, s', w, hl, he, k, h => by
    have h0 := he 0 (by simp)
    refine T.Wd.fold (w.plus h0.1 h0.2.1 h0.2.2 k h) (by simpa using hl) (fun j hj => ?_) k h
    exact he (j + 1) (by simpa using hj)
theorem T.Tru.sat0 : T.Tru H rs os ps b0 b1 b2 b3 b4 y → T.Tru H rs os ps b0 b1 b2 b3 b4 (fun m => y m - y (-1, 0)) := fun h => by
  refine ⟨fun k m a b c d => ?_, fun k m a b c d => ?_, fun x hx q1 q2 => ?_⟩
  · have := h.lim k m a b c d
    rwa [show y (k, m) - y (-1, 0) - (y (-1, 0) - y (-1, 0)) = y (k, m) - y (-1, 0) by omega]
  · have := h.grow k m a b c d
    rwa [show y (k, m + 1) - y (-1, 0) - (y (k, m) - y (-1, 0)) = y (k, m + 1) - y (k, m) by omega]
  · have := h.cmp x hx q1 q2
    rwa [show ∀ a b c : Int, a - c - (b - c) = a - b from fun a b c => by omega]
end

end Go.Proofs.Ytcmdaiklkdeanaa

/- What Case and IsTruth tell, in the words of the chapter. -/
namespace Go.Proofs.Ytcmdaiklkdeanaa
open Go.RowKit

section
variable {H : Nat} {rs : T.LR} {os : T.LO} {ps : T.LP} {aR aO aP aV : Option Addr} {nR cR nO cO nP cP nV cV : Nat} {w : World}
/-- rows that are a table of a truth -/
structure T.Table (H : Nat) (rs : T.LR) (rows : List (List Int)) (d : Int × Int → Int) : Prop where
  len : rows.length = rs.length
  row : ∀ x ∈ rows, x.length = H + 1
  zero : d (-1, 0) = 0
  val : ∀ k h : Nat, k < rs.length → h ≤ H → (rows.getD k []).getD h 0 = d ((k : Int), (h : Int))
theorem T.Table.rowk {rows : List (List Int)} {d : Int × Int → Int} (t : T.Table H rs rows d) {k : Nat} (hk : k < rs.length) : (rows.getD k []).length = H + 1 := by
  refine t.row _ ?_
  rw [List.getD_eq_getElem?_getD, List.getElem?_eq_getElem (show k < rows.length by rw [t.len]; exact hk)]
  exact List.getElem_mem _
theorem T.Table.offs {rows : List (List Int)} {d : Int × Int → Int} (t : T.Table H rs rows d) {k h : Int} (hk : 0 ≤ k ∧ k < rs.length) (hh : 0 ≤ h ∧ h ≤ H) : T.offs rows (k, h) = d (k, h) := by
  unfold T.offs T.offsTo
  have hl := t.len
  rw [if_neg (by show ¬ k < 0; omega), if_pos (.inl (by show k < (rows.length : Int); omega))]
  have q := t.val k.toNat h.toNat (by omega) (by omega)
  rw [show ((k.toNat : Nat) : Int) = k by omega, show ((h.toNat : Nat) : Int) = h by omega] at q
  exact q
theorem T.offs0 (rows : List (List Int)) : T.offs rows (-1, 0) = 0 := by
  unfold T.offs T.offsTo
  rw [if_pos (by decide)]
theorem T.Tru.bd {b0 b1 b2 b3 b4 : Bool} {y : Int × Int → Int} (h : T.Tru H rs os ps b0 b1 b2 b3 b4 y) (h0 : y (-1, 0) = 0) {m : Int × Int} (hm : m ∈ T.moms rs.length H) : -100000 ≤ y m ∧ y m ≤ 100000 := by
  obtain ⟨c, j⟩ := m
  rcases T.mem_moms.1 hm with ⟨rfl, rfl⟩ | ⟨⟨a, b⟩, c', d⟩
  · rw [h0]; omega
  · have q := h.lim c j a b c' d
    unfold T.In at q
    rw [h0] at q
    simp only at q
    omega
theorem IsTruth_tells {rows : List (List Int)} (G : T.Good H rs os ps) (h64 : ∀ m ∈ T.moms rs.length H, D.in64 (T.offs rows m)) (IR : T.Rows w (.slice aV nV cV) rows) (I : Sps w (.slice aR nR cR) rs) (IO : Ops w (.slice aO nO cO) os) (IP : Prs w (.slice aP nP cP) ps) :
    Calls Try.prog 15 #[ClV H (.slice aR nR cR) (.slice aO nO cO) (.slice aP nP cP), .slice aV nV cV] w fun e w' => (∃ r, e = .returned (.tuple #[.bool r, .int .i64 0]) ∧ (r = true ↔ (rows.length = rs.length ∧ ∀ x ∈ rows, x.length = H + 1) ∧ T.Tr H rs os ps (T.offs rows))) ∧ Up w w' := by
  have hn := I.len
  subst hn
  have q := IsTruth_ok I IO IP IR (T.web_ok G) (T.valid_good.2 G)
  rwa [T.keep_tru G (T.offs0 rows) h64] at q
theorem IsTruth_table {rows : List (List Int)} {d : Int × Int → Int} (G : T.Good H rs os ps) (t : T.Table H rs rows d) (hd : T.Tr H rs os ps d) (IR : T.Rows w (.slice aV nV cV) rows) (I : Sps w (.slice aR nR cR) rs) (IO : Ops w (.slice aO nO cO) os) (IP : Prs w (.slice aP nP cP) ps) :
    Calls Try.prog 15 #[ClV H (.slice aR nR cR) (.slice aO nO cO) (.slice aP nP cP), .slice aV nV cV] w fun e w' => e = .returned (.tuple #[.bool true, .int .i64 0]) ∧ Up w w' := by
  have e0 : T.Tr H rs os ps (T.offs rows) := hd.congr G (by rw [T.offs0, t.zero]) (fun k h a b c e => t.offs ⟨a, b⟩ ⟨c, e⟩)
  refine (IsTruth_tells G (fun m hm => ?_) IR I IO IP).mono ?_
  · have := e0.bd (T.offs0 rows) hm
    unfold D.in64
    omega
  · rintro e w' ⟨⟨r, rfl, hr⟩, u⟩
    rw [hr.2 ⟨⟨t.len, t.row⟩, e0⟩]
    exact ⟨rfl, u⟩
/-- the case that is told -/
theorem Case_tells {k h : Int} {most : Bool} (G : T.Good H rs os ps) (hk : 0 ≤ k ∧ k < rs.length) (hh : 0 ≤ h ∧ h ≤ H) (hy : ∃ y, T.Tr H rs os ps y) (I : Sps w (.slice aR nR cR) rs) (IO : Ops w (.slice aO nO cO) os) (IP : Prs w (.slice aP nP cP) ps) :
    Calls Try.prog 26 #[ClV H (.slice aR nR cR) (.slice aO nO cO) (.slice aP nP cP), .int .i64 k, .int .i64 h, .bool most] w fun e w' => (∃ v rows d, e = .returned (.tuple #[v, .int .i64 0]) ∧ T.Rows w' v rows ∧ T.Table H rs rows d ∧ T.Tr H rs os ps d ∧ ∀ k' h' lo hi : Int, 0 ≤ k' → k' < rs.length → 0 ≤ h' → h' ≤ H → T.Tells H rs os ps (k', h') (-1, 0) lo hi 0 → d (k', h') = if most then hi else lo) ∧ Up w w' := by
  have hn := I.len
  subst hn
  have W := T.web_ok (b0 := false) (b1 := false) (b2 := false) (b3 := false) (b4 := false) G
  have hq := T.ask0 G (cl := [k]) (hr := [h]) (by simpa using hk) (by simpa using hh)
  have m0 := T.mom_0 (n := rs.length) (H := H)
  obtain ⟨y, hy⟩ := hy
  have hl := fun (o : Int × Int → Int) (sg : Int) => T.rws_len (o := o) (sg := sg) (n := rs.length) (H := H)
  cases most with
  | true =>
    refine (Case_hi I IO IP W hq).mono ?_
    rintro e w' ⟨⟨v, n, cs, r, rfl, hF, hc⟩, u⟩
    rcases W.yes G.h2 G.r2 m0 hF with ⟨hr, d, d1, d2, d3, d4⟩ | ⟨_, _, hno⟩
    · rcases hc with ⟨_, rfl, hR⟩ | ⟨hr', _⟩
      · have T1 := (T.sat_tru G).1 d1
        refine ⟨⟨v, _, d, rfl, hR d d3, ⟨(hl d 1).1, (hl d 1).2, d2, fun k h hk hh => ?_⟩, T1, fun k' h' lo hi a b c e q => ?_⟩, u⟩
        · rw [T.rws_at hk hh, Int.mul_one]
          have := T1.bd d2 (T.mom_in (n := rs.length) (H := H) (k := k) (h := h) ⟨by omega, by omega⟩ ⟨by omega, by omega⟩)
          exact IntWalk.i64_in _ (by omega)
        · obtain ⟨p, _, z, hz, s⟩ := q.yes
          have p1 := p d T1
          have p2 := d4 z ((T.sat_tru G).2 hz) (k', h') (T.mom_in ⟨a, b⟩ ⟨c, e⟩)
          rw [if_pos rfl]
          omega
      · rw [hr] at hr'; cases hr'
    · exact absurd ((T.sat_tru G).2 hy) (hno y)
  | false =>
    refine (Case_lo I IO IP W hq).mono ?_
    rintro e w' ⟨⟨v, n, cs, r, rfl, hF, hc⟩, u⟩
    rcases W.yes' G.h2 G.r2 m0 hF with ⟨hr, d, d1, d2, d3, d4⟩ | ⟨_, _, hno⟩
    · rcases hc with ⟨_, rfl, hR⟩ | ⟨hr', _⟩
      · have T1 := (T.sat_tru G).1 d1
        refine ⟨⟨v, _, fun m => -d m, rfl, hR d d3, ⟨(hl d (-1)).1, (hl d (-1)).2, by simp only [d2]; rfl, fun k h hk hh => ?_⟩, T1, fun k' h' lo hi a b c e q => ?_⟩, u⟩
        · rw [T.rws_at hk hh]
          have := T1.bd (by simp only [d2]; rfl) (T.mom_in (n := rs.length) (H := H) (k := k) (h := h) ⟨by omega, by omega⟩ ⟨by omega, by omega⟩)
          rw [show d ((k : Int), (h : Int)) * -1 = -d ((k : Int), (h : Int)) by omega]
          exact IntWalk.i64_in _ (by omega)
        · obtain ⟨p, ⟨z, hz, s⟩, _⟩ := q.yes
          have p1 : lo ≤ -d (k', h') - -d (-1, 0) ∧ -d (k', h') - -d (-1, 0) ≤ hi := p _ T1
          have p2 := d4 z ((T.sat_tru G).2 hz) (k', h') (T.mom_in ⟨a, b⟩ ⟨c, e⟩)
          rw [d2] at p1
          rw [if_neg (by decide)]
          show -d (k', h') = lo
          omega
      · rw [hr] at hr'; cases hr'
    · exact absurd ((T.sat_tru G).2 hy) (hno y)
end

end Go.Proofs.Ytcmdaiklkdeanaa

/- Growth hour by hour, openings that add nothing, the best clock. -/
namespace Go.Proofs.Ytcmdaiklkdeanaa
open Go.RowKit

section
variable {H H' : Nat} {rs rs' : T.LR} {os os' : T.LO} {ps ps' : T.LP} {m1 m2 : Int × Int} {l h e l' h' e' : Int}
theorem T.Tells.move (G' : T.Good H' rs' os' ps') (hm : ∀ y, T.Tr H rs os ps y ↔ T.Tr H' rs' os' ps' y) (h1 : m1 ∈ T.moms rs'.length H') (h2 : m2 ∈ T.moms rs'.length H') (t : T.Tells H rs os ps m1 m2 l h e) : T.Tells H' rs' os' ps' m1 m2 l h e := by
  obtain ⟨l', h', e', t'⟩ := T.Tells.ex G' h1 h2
  obtain ⟨rfl, rfl, rfl⟩ := t.congr hm t'
  exact t'
/-- the growth by the first openings -/
def T.gto (rs : T.LR) (os : T.LO) (k h : Int) (j : Nat) : Int × Int := (os.take j).foldl (T.plus k h) (rs.getD k.toNat (0, 0))
theorem T.gto_zero (k h : Int) : T.gto rs os k h 0 = rs.getD k.toNat (0, 0) := rfl
theorem T.gto_all (k h : Int) : T.gto rs os k h os.length = T.grw rs os k h := by
  unfold T.gto
  rw [List.take_length]
  rfl
theorem T.gto_succ (k h : Int) {j : Nat} (hj : j < os.length) : T.gto rs os k h (j + 1) = T.plus k h (T.gto rs os k h j) (os.getD j (0, 0, 0, 0)) := by
  unfold T.gto
  have e : os.getD j (0, 0, 0, 0) = os[j] := by rw [List.getD_eq_getElem?_getD, List.getElem?_eq_getElem hj]; rfl
  rw [List.take_add_one, List.getElem?_eq_getElem hj, List.foldl_append, e]
  rfl
theorem T.gto_bd (G : T.Good H rs os ps) (k h : Int) (hk : k.toNat < rs.length) : ∀ j : Nat, j ≤ os.length → -(1000 + 100000 * (j : Int)) ≤ (T.gto rs os k h j).1 ∧ (T.gto rs os k h j).2 ≤ 1000 + 100000 * (j : Int) ∧ (T.gto rs os k h j).1 ≤ (T.gto rs os k h j).2
  | 0, _ => by
    rw [T.gto_zero, List.getD_eq_getElem?_getD, List.getElem?_eq_getElem hk]
    have q := G.rsB rs[k.toNat] (List.getElem_mem _)
    unfold T.Bs at q
    simp only [Option.getD_some]
    omega
  | j + 1, hj => by
    have ih := T.gto_bd G k h hk j (by omega)
    rw [T.gto_succ k h (by omega)]
    have q := G.osB (os.getD j (0, 0, 0, 0)) (by
      rw [List.getD_eq_getElem?_getD, List.getElem?_eq_getElem (show j < os.length by omega)]
      exact List.getElem_mem _)
    generalize os.getD j (0, 0, 0, 0) = x at *
    generalize T.gto rs os k h j = s at *
    obtain ⟨x1, x2, x3, x4⟩ := x
    unfold T.Bs at q
    unfold T.plus
    simp only at q
    split <;> (try simp only) <;> omega
theorem T.good_snoc (G : T.Good H rs os ps) {k h : Int} (hk : 0 ≤ k ∧ k < rs.length) (hh : 0 ≤ h ∧ h < H) (ho : os.length < 6) : T.Good H rs (os ++ [(k, h, 0, 0)]) ps where
  h1 := G.h1
  h2 := G.h2
  r1 := G.r1
  r2 := G.r2
  rsB := G.rsB
  osB x hx := by
    rcases List.mem_append.1 hx with hx | hx
    · exact G.osB x hx
    · obtain rfl := List.mem_singleton.1 hx
      exact ⟨hk, hh, ⟨⟨by show (-100000 : Int) ≤ 0; omega, by show (0 : Int) ≤ 100000; omega⟩, by show (-100000 : Int) ≤ 0; omega, by show (0 : Int) ≤ 100000; omega⟩, by show (0 : Int) ≤ 0; omega⟩
  o6 := by rw [List.length_append, List.length_singleton]; omega
  psB := G.psB
  p14 := G.p14
theorem T.grw_zero (k h k' h' : Int) : T.grw rs (os ++ [(k', h', 0, 0)]) k h = T.grw rs os k h := by
  rw [T.grw_snoc]
  unfold T.plus
  split
  · simp only [Int.add_zero]
  · rfl
theorem T.tr_zero {k h : Int} (y : Int × Int → Int) : T.Tr H rs os ps y ↔ T.Tr H rs (os ++ [(k, h, 0, 0)]) ps y := by
  constructor
  · exact fun a => ⟨a.lim, fun k' h' q1 q2 q3 q4 => by rw [T.grw_zero]; exact a.grow k' h' q1 q2 q3 q4, a.cmp⟩
  · exact fun a => ⟨a.lim, fun k' h' q1 q2 q3 q4 => by have := a.grow k' h' q1 q2 q3 q4; rwa [T.grw_zero] at this, a.cmp⟩
/-- a clock gains in an hour no more than it can -/
theorem T.Tells.gain {k j : Int} (hk : 0 ≤ k ∧ k < rs.length) (hj : 0 ≤ j ∧ j < H) (t : T.Tells H rs os ps (k, j + 1) (k, j) l h 0) : (T.grw rs os k j).1 ≤ l ∧ h ≤ (T.grw rs os k j).2 := by
  obtain ⟨_, ⟨y, y1, y2⟩, z, z1, z2⟩ := t.yes
  have a := y1.grow k j hk.1 hk.2 hj.1 hj.2
  have b := z1.grow k j hk.1 hk.2 hj.1 hj.2
  unfold T.In at a b
  omega
/-- the first of the least -/
theorem T.bst_is (wd : Nat → Int) : ∀ n : Nat, 1 ≤ n → (T.bst wd n).1 < n ∧ (T.bst wd n).2 = wd (T.bst wd n).1 ∧ (∀ j, j < n → (T.bst wd n).2 ≤ wd j) ∧ ∀ j, j < (T.bst wd n).1 → (T.bst wd n).2 < wd j
  | 0, h => absurd h (by omega)
  | 1, _ => by
    have e : T.bst wd 1 = (0, wd 0) := by
      show (if 0 = 0 ∨ wd 0 < (T.bst wd 0).2 then (0, wd 0) else T.bst wd 0) = _
      rw [if_pos (.inl rfl)]
    rw [e]
    refine ⟨by show 0 < 1; omega, rfl, fun j hj => ?_, fun j hj => absurd hj (by show ¬ j < 0; omega)⟩
    obtain rfl : j = 0 := by omega
    exact Int.le_refl _
  | n + 2, _ => by
    obtain ⟨i1, i2, i3, i4⟩ := T.bst_is wd (n + 1) (by omega)
    by_cases c : wd (n + 1) < (T.bst wd (n + 1)).2
    · have e : T.bst wd (n + 2) = (n + 1, wd (n + 1)) := by
        show (if n + 1 = 0 ∨ wd (n + 1) < (T.bst wd (n + 1)).2 then (n + 1, wd (n + 1)) else T.bst wd (n + 1)) = _
        rw [if_pos (.inr c)]
      rw [e]
      refine ⟨by show n + 1 < n + 2; omega, rfl, fun j hj => ?_, fun j hj => ?_⟩
      · by_cases q : j = n + 1
        · subst q; exact Int.le_refl _
        · have := i3 j (by omega)
          show wd (n + 1) ≤ wd j
          omega
      · have hj : j < n + 1 := hj
        have := i3 j hj
        show wd (n + 1) < wd j
        omega
    · have e : T.bst wd (n + 2) = T.bst wd (n + 1) := by
        show (if n + 1 = 0 ∨ wd (n + 1) < (T.bst wd (n + 1)).2 then (n + 1, wd (n + 1)) else T.bst wd (n + 1)) = _
        rw [if_neg (by rintro (q | q); omega; exact c q)]
      rw [e]
      refine ⟨by omega, i2, fun j hj => ?_, i4⟩
      by_cases q : j = n + 1
      · subst q; omega
      · exact i3 j (by omega)
end
section
variable {H : Nat} {rs : T.LR} {os : T.LO} {ps : T.LP} {aR aO aP : Option Addr} {nR cR nO cO nP cP : Nat}
theorem Best_tells {h : Int} (G : T.Good H rs os ps) (hh : 0 ≤ h ∧ h ≤ H) (hy : ∃ y, T.Tr H rs os ps y) :
    ∃ (b : Nat) (lo hi : Int), b < rs.length ∧ T.Tells H rs os ps ((b : Int), h) (-1, 0) lo hi 0 ∧ (∀ (j : Nat) (l' h' : Int), j < rs.length → T.Tells H rs os ps ((j : Int), h) (-1, 0) l' h' 0 → hi - lo ≤ h' - l' ∧ (j < b → hi - lo < h' - l')) ∧
      ∀ w, Sps w (.slice aR nR cR) rs → Ops w (.slice aO nO cO) os → Prs w (.slice aP nP cP) ps → Calls Try.prog 30 #[ClV H (.slice aR nR cR) (.slice aO nO cO) (.slice aP nP cP), .int .i64 h] w fun e w' => e = .returned (.tuple #[.int .i64 b, .int .i64 (hi - lo), .int .i64 0]) ∧ Up w w' := by
  have ex : ∀ k : Nat, ∃ s : Int × Int, k < rs.length → T.Tells H rs os ps ((k : Int), h) (-1, 0) s.1 s.2 0 := fun k => by
    by_cases hk : k < rs.length
    · obtain ⟨l, u, e, t⟩ := T.Tells.ex G (T.mom_in (n := rs.length) (k := k) ⟨by omega, by omega⟩ hh) T.mom_0
      obtain ⟨y, hy⟩ := hy
      rcases t with ⟨rfl, q⟩ | ⟨_, _, _, hn⟩
      · exact ⟨(l, u), fun _ => .inl ⟨rfl, q⟩⟩
      · exact absurd hy (hn y)
    · exact ⟨(0, 0), fun q => absurd q hk⟩
  obtain ⟨S, hS⟩ := Classical.skolem.1 ex
  have r1 := G.r1
  obtain ⟨b1, b2, b3, b4⟩ := T.bst_is (fun k => (S k).2 - (S k).1) rs.length r1
  refine ⟨(T.bst (fun k => (S k).2 - (S k).1) rs.length).1, (S (T.bst (fun k => (S k).2 - (S k).1) rs.length).1).1, (S (T.bst (fun k => (S k).2 - (S k).1) rs.length).1).2, b1, hS _ b1, fun j l' h' hj t => ?_, fun w I IO IP => ?_⟩
  · obtain ⟨rfl, rfl, _⟩ := t.congr (fun y => Iff.rfl) (hS j hj)
    have c1 := b3 j hj
    rw [b2] at c1
    refine ⟨c1, fun hb => ?_⟩
    have c2 := b4 j hb
    rw [b2] at c2
    exact c2
  · have hn := I.len
    subst hn
    have q := Best_ok I IO IP (T.web_ok G) (T.ask0 G (cl := []) (hr := [h]) (by simp) (by simpa using hh)) (Lo := fun k => (S k).1) (Hi := fun k => (S k).2) (fun k hk => by
      rcases (T.tells_asked G).2 (hS k hk) with ⟨_, a⟩ | ⟨a, _⟩
      · exact a
      · exact absurd a (by omega))
    rw [b2] at q
    exact q
theorem Best_none {h : Int} (G : T.Good H rs os ps) (hh : 0 ≤ h ∧ h ≤ H) (hy : ∀ y, ¬ T.Tr H rs os ps y) {w : World} (I : Sps w (.slice aR nR cR) rs) (IO : Ops w (.slice aO nO cO) os) (IP : Prs w (.slice aP nP cP) ps) :
    Calls Try.prog 30 #[ClV H (.slice aR nR cR) (.slice aO nO cO) (.slice aP nP cP), .int .i64 h] w fun e w' => e = .returned (.tuple #[.int .i64 0, .int .i64 0, .int .i64 22]) ∧ Up w w' := by
  have hn := I.len
  subst hn
  exact Best_false I IO IP (T.web_ok G) (T.ask0 G (cl := []) (hr := [h]) (by simp) (by simpa using hh)) (fun y hs => hy y ((T.sat_tru G).1 hs))
end

end Go.Proofs.Ytcmdaiklkdeanaa
