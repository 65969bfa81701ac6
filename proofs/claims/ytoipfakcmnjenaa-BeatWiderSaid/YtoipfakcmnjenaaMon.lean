import Derived.Test.YtoipfakcmnjenaaTel
/- How truths of cellars hang together: wider, fewer, other orders; growth by sums. -/
namespace Go.Proofs.Ytoipfakcmnjenaa
open Go.RowKit

section
variable {H : Nat} {rs rs' : T.LR} {os os' : T.LO} {ps ps' : T.LP} {b0 b1 b2 b3 b4 : Bool} {y : Int × Int → Int}
theorem T.Tru.mono (hl : rs'.length = rs.length) (hg : ∀ k h n : Int, 0 ≤ k → k < rs.length → 0 ≤ h → h < H → T.In (T.grw rs os k h) n → T.In (T.grw rs' os' k h) n)
    (hc : ∀ x ∈ ps', ∃ z ∈ ps, z.1 = x.1 ∧ z.2.1 = x.2.1 ∧ z.2.2.1 = x.2.2.1 ∧ ∀ n, T.In z.2.2.2 n → T.In x.2.2.2 n) (h : T.Tru H rs os ps b0 b1 b2 b3 b4 y) : T.Tru H rs' os' ps' b0 b1 b2 b3 b4 y where
  lim k m a b c d := h.lim k m a (by rw [← hl]; exact b) c d
  grow k m a b c d := hg k m _ a (by rw [← hl]; exact b) c d (h.grow k m a (by rw [← hl]; exact b) c d)
  cmp x hx q1 q2 := by
    obtain ⟨z, hz, e1, e2, e3, e4⟩ := hc x hx
    have := h.cmp z hz (by rw [e2]; exact q1) (by rw [e3]; exact q2)
    rw [e1, e2, e3] at this
    exact e4 _ this
/-- what an opening adds -/
def T.plus (k h : Int) (s : Int × Int) (x : Int × Int × Int × Int) : Int × Int := if x.1 = k ∧ x.2.1 = h then (s.1 + x.2.2.1, s.2 + x.2.2.2) else s
theorem T.grw_fold (k h : Int) : T.grw rs os k h = os.foldl (T.plus k h) (rs.getD k.toNat (0, 0)) := rfl
theorem T.plus_comm (k h : Int) (s : Int × Int) (x z : Int × Int × Int × Int) : T.plus k h (T.plus k h s x) z = T.plus k h (T.plus k h s z) x := by
  unfold T.plus
  split <;> split <;> simp only [Prod.mk.injEq] <;> omega
theorem T.grw_perm (p : os.Perm os') (k h : Int) : T.grw rs os k h = T.grw rs os' k h := by
  rw [T.grw_fold, T.grw_fold]
  exact p.foldl_eq' (fun x _ z _ s => T.plus_comm k h s x z) _
theorem T.grw_snoc (x : Int × Int × Int × Int) (k h : Int) : T.grw rs (os ++ [x]) k h = T.plus k h (T.grw rs os k h) x := by
  rw [T.grw_fold, T.grw_fold, List.foldl_append]
  rfl
/-- one span holds another one -/
def T.Wd (s s' : Int × Int) : Prop := s'.1 ≤ s.1 ∧ s.2 ≤ s'.2
theorem T.Wd.inn {s s' : Int × Int} (w : T.Wd s s') {n : Int} (h : T.In s n) : T.In s' n := by
  unfold T.Wd at w
  unfold T.In at h ⊢
  omega
theorem T.Wd.refl (s : Int × Int) : T.Wd s s := ⟨Int.le_refl _, Int.le_refl _⟩
theorem T.Wd.plus {s s' : Int × Int} (w : T.Wd s s') {x x' : Int × Int × Int × Int} (e1 : x'.1 = x.1) (e2 : x'.2.1 = x.2.1) (e3 : T.Wd x.2.2 x'.2.2) (k h : Int) : T.Wd (T.plus k h s x) (T.plus k h s' x') := by
  unfold T.plus
  rw [e1, e2]
  unfold T.Wd at *
  split
  · simp only
    omega
  · exact w
theorem T.Wd.fold : ∀ {os os' : T.LO} {s s' : Int × Int}, T.Wd s s' → os'.length = os.length → (∀ j, j < os.length → (os'.getD j (0, 0, 0, 0)).1 = (os.getD j (0, 0, 0, 0)).1 ∧ (os'.getD j (0, 0, 0, 0)).2.1 = (os.getD j (0, 0, 0, 0)).2.1 ∧ T.Wd (os.getD j (0, 0, 0, 0)).2.2 (os'.getD j (0, 0, 0, 0)).2.2) → ∀ k h, T.Wd (os.foldl (T.plus k h) s) (os'.foldl (T.plus k h) s')
  | [], [], s, s', w, _, _, k, h => w
  | [], _ :: _, _, _, _, hl, _, _, _ => by simp at hl
  | _ :: _, [], _, _, _, hl, _, _, _ => by simp at hl
  | x :: os, x' :: os', s, s', w, hl, he, k, h => by
    have h0 := he 0 (by simp)
    refine T.Wd.fold (w.plus h0.1 h0.2.1 h0.2.2 k h) (by simpa using hl) (fun j hj => ?_) k h
    exact he (j + 1) (by simpa using hj)
theorem T.Tru.sat0 : T.Tru H rs os ps b0 b1 b2 b3 b4 y → T.Tru H rs os ps b0 b1 b2 b3 b4 (fun m => y m - y (-1, 0)) := fun h => by
  refine ⟨fun k m a b c d => ?_, fun k m a b c d => ?_, fun x hx q1 q2 => ?_⟩
  · have := h.lim k m a b c d
    rwa [show y (k, m) - y (-1, 0) - (y (-1, 0) - y (-1, 0)) = y (k, m) - y (-1, 0) by omega]
  · have := h.grow k m a b c d
    rwa [show y (k, m + 1) - y (-1, 0) - (y (k, m) - y (-1, 0)) = y (k, m + 1) - y (k, m) by omega]
  · have := h.cmp x hx q1 q2
    rwa [show ∀ a b c : Int, a - c - (b - c) = a - b from fun a b c => by omega]
end

end Go.Proofs.Ytoipfakcmnjenaa
