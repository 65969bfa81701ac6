import Derived.Test.YtcadpdbadgejfaaNew
/- What Plan answers is a plan. -/
namespace Go.Proofs.Ytcadpdbadgejfaa
open Go.RowKit


theorem S.list_last (g : Nat → Int) (n : Nat) : (S.list g (n + 1) 0).drop n = [g n] := by
  rw [S.list_is, List.range_succ, List.map_append]
  simp only [List.map_cons, List.map_nil, Nat.zero_add]
  exact List.drop_left' (by simp)

theorem S.plans_of {f s j off sg c : Int} {B : Nat → Int} {T : Nat} (hT : T ≤ 200) (hsum : S.sm B T = c) (hb : ∀ i, i < T → -s ≤ sg * B i ∧ sg * B i ≤ f) (hn : ∀ i, i + 1 < T → sg * B (i + 1) - sg * B i ≤ j ∧ -j ≤ sg * B (i + 1) - sg * B i)
    (he : ∀ i, i < T → i = 0 ∨ i + 1 = T → sg * B i ≤ j ∧ -j ≤ sg * B i) (hc : sg * c = -off) (o1 : -20000 ≤ off) (o2 : off ≤ 20000) : S.plans f s j off (S.list (fun x => sg * B x) T 0) = true := by
  have k1 : S.keeps f s j 0 (S.list (fun x => sg * B x) T 0) = true := S.keeps_list (fun x => sg * B x) T hb hn T 0 (by omega) 0 (fun h => by have := he 0 h (.inl rfl); omega)
  have k2 : S.keeps f s j 0 ((S.list (fun x => sg * B x) T 0).drop ((S.list (fun x => sg * B x) T 0).length - 1)) = true := by
    rw [S.list_len]
    cases T with
    | zero => rfl
    | succ n =>
      rw [Nat.add_sub_cancel, S.list_last]
      have a := hb n (by omega)
      have b := he n (by omega) (.inr rfl)
      simp only [S.keeps, Bool.and_eq_true, decide_eq_true_eq, and_true]
      exact ⟨⟨⟨a.1, a.2⟩, by omega⟩, by omega⟩
  have k3 : wrap64 (S.list (fun x => sg * B x) T 0).sum = -off := by
    rw [S.sum_list, S.sm_mul, hsum, hc]
    exact wrap_in ⟨by omega, by omega⟩
  unfold S.plans
  rw [k1, k2, k3, S.list_len, decide_eq_true hT]
  simp

theorem S.plan_is {f s j dl dh off : Int} (h : S.ok f s j dl dh = true) (o1 : -20000 ≤ off) (o2 : off ≤ 20000) {T L : Nat} (hT : T ≤ 200) (hf : S.First (fun x => decide (max off (-off) ≤ S.most (S.part f s (S.against off)) j x)) 201 T)
    (hL : S.Level (S.add (S.part f s (S.against off)) j T) T (max off (-off)) L) :
    S.plans f s j off (S.list (fun x => S.sign (S.against off) * S.bit (S.add (S.part f s (S.against off)) j T) L (max off (-off) - S.sm (S.lo (S.add (S.part f s (S.against off)) j T) L) T) x) T 0) = true := by
  obtain ⟨e1, e2⟩ := S.part_bd h (S.against off)
  obtain ⟨⟨f1, f2⟩, ⟨s1, s2⟩, ⟨j1, j2⟩, _⟩ := S.ok_iff.1 h
  have hm := of_decide_eq_true (hf.2.2 (by omega))
  have hsg : (S.sign (S.against off) = -1 ∧ S.part f s (S.against off) = s ∧ 0 < off) ∨ (S.sign (S.against off) = 1 ∧ S.part f s (S.against off) = f ∧ off < 0) ∨ (S.sign (S.against off) = 0 ∧ off = 0) := by
    unfold S.against
    split
    · exact .inl ⟨rfl, rfl, by assumption⟩
    · split
      · exact .inr (.inl ⟨rfl, rfl, by assumption⟩)
      · exact .inr (.inr ⟨rfl, by omega⟩)
  generalize S.sign (S.against off) = sg at *
  generalize S.part f s (S.against off) = e at *
  have c0 := hL.fits
  have l0 := hL.l0
  have hA := fun i => S.add_bd (e := e) (j := j) e1 (by omega) T i
  have hB : ∀ i, 0 ≤ S.bit (S.add e j T) L (max off (-off) - S.sm (S.lo (S.add e j T) L) T) i ∧ S.bit (S.add e j T) L (max off (-off) - S.sm (S.lo (S.add e j T) L) T) i ≤ S.add e j T i := fun i => by
    have a := S.bit_bd (A := S.add e j T) (L := L) (c := max off (-off) - S.sm (S.lo (S.add e j T) L) T) (by omega) i
    have b := hA i
    unfold S.lo at a ⊢
    omega
  have hN := fun i => S.bit_near (A := S.add e j T) (L := L) (c := max off (-off) - S.sm (S.lo (S.add e j T) L) T) (j := j) (by omega) (by omega) i (S.add_near (e := e) (j := j) e1 (by omega) T i).1 (S.add_near (e := e) (j := j) e1 (by omega) T i).2
  have hE := fun i hi => S.add_one (e := e) (j := j) e1 (by omega) T i hi
  have hS := hL.sum (fun i _ => by have := hA i; omega) hm
  generalize S.bit (S.add e j T) L (max off (-off) - S.sm (S.lo (S.add e j T) L) T) = B at *
  generalize S.add e j T = A at *
  rcases hsg with ⟨rfl, rfl, g⟩ | ⟨rfl, rfl, g⟩ | ⟨rfl, g⟩
  · exact S.plans_of hT hS (fun i _ => by have := hA i; have := hB i; omega) (fun i _ => by have := hN i; omega) (fun i _ q => by have := hB i; have := hE i q; omega) (by omega) o1 o2
  · exact S.plans_of hT hS (fun i _ => by have := hA i; have := hB i; omega) (fun i _ => by have := hN i; omega) (fun i _ q => by have := hB i; have := hE i q; omega) (by omega) o1 o2
  · exact S.plans_of hT hS (fun i _ => by omega) (fun i _ => by omega) (fun i _ q => by omega) (by omega) o1 o2

end Go.Proofs.Ytcadpdbadgejfaa
