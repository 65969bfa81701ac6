import Derived.Test.YtcadpdbadgejfaaArr
import Derived.Sort.LoopGhostIn
/- What narrow does to one tick, as mathematics; marks of loops. -/
namespace Go.Proofs.Ytcadpdbadgejfaa
open Go.RowKit Go.Shelf

/-- what many spans have in common -/
def S.fo (s : Int × Int) (l : List (Int × Int)) : Int × Int := l.foldl S.bo s
theorem S.fo_snoc (s : Int × Int) (l : List (Int × Int)) (x : Int × Int) : S.fo s (l ++ [x]) = S.bo (S.fo s l) x := by unfold S.fo; rw [List.foldl_append]; rfl
theorem S.put_put (o : S.Ofs) (t : Nat) (x y : Int × Int) : S.put (S.put o t x) t y = S.put o t y := by
  funext i
  by_cases e : i = t
  · subst e; rw [S.put_self, S.put_self]
  · rw [S.put_ne _ _ e, S.put_ne _ _ e, S.put_ne _ _ e]
theorem S.put_id (o : S.Ofs) (t : Nat) : S.put o t (o t) = o := by
  funext i
  by_cases e : i = t
  · subst e; rw [S.put_self]
  · rw [S.put_ne _ _ e]
theorem S.Bk.Nar.fold {b : S.Bk} {o0 o : S.Ofs} {t : Nat} (h : b.Nar o0 o t 0) (ht : t ≤ b.ticks) : ∀ k, k ≤ (b.bounds o t).length → (S.fo (o t) ((b.bounds o t).take k)).1 ≤ (S.fo (o t) ((b.bounds o t).take k)).2 → b.Nar o0 (S.put o t (S.fo (o t) ((b.bounds o t).take k))) t k := by
  intro k
  induction k with
  | zero =>
    intro _ _
    rw [List.take_zero]
    show b.Nar o0 (S.put o t (o t)) t 0
    rw [S.put_id]; exact h
  | succ k ih =>
    intro hk hn
    rw [List.take_succ_eq_append_getElem hk, S.fo_snoc] at hn ⊢
    have hin := S.bo_in (S.fo (o t) ((b.bounds o t).take k)) (b.bounds o t)[k]
    have h1 := ih (by omega) (by unfold S.InSp at hin; omega)
    have h2 := h1.step ht (s := (b.bounds o t)[k]) (by rw [S.Bk.bounds_put]; exact List.getElem?_eq_getElem hk) (by rw [S.put_self]; exact hn)
    rw [S.put_self, S.put_put] at h2
    exact h2
theorem S.Bk.bounds_len (b : S.Bk) (o o' : S.Ofs) (t : Nat) : (b.bounds o t).length = (b.bounds o' t).length := by
  unfold S.Bk.bounds
  rw [List.length_append, List.length_append, List.length_append, List.length_append]
  by_cases h1 : 0 < t
  · rw [if_pos h1, if_pos h1]
    by_cases h2 : t < b.ticks
    · rw [if_pos h2, if_pos h2]; rfl
    · rw [if_neg h2, if_neg h2]; rfl
  · rw [if_neg h1, if_neg h1]
    by_cases h2 : t < b.ticks
    · rw [if_pos h2, if_pos h2]; rfl
    · rw [if_neg h2, if_neg h2]
theorem S.Bk.Nar.whole {b : S.Bk} {o0 o : S.Ofs} {t : Nat} (h : b.Nar o0 o t 0) (ht : t ≤ b.ticks) (hn : (S.fo (o t) (b.bounds o t)).1 ≤ (S.fo (o t) (b.bounds o t)).2) : b.Nar o0 (S.put o t (S.fo (o t) (b.bounds o t))) (t + 1) 0 := by
  have h1 := h.fold ht (b.bounds o t).length (Nat.le_refl _)
  rw [List.take_length] at h1
  exact (h1 hn).next (by rw [S.Bk.bounds_len b o0 o t]; exact Nat.le_refl _)
theorem S.fo_mem {l : List (Int × Int)} {x : Int} : ∀ {s : Int × Int}, s.1 ≤ x ∧ x ≤ s.2 → (∀ y ∈ l, y.1 ≤ x ∧ x ≤ y.2) → (S.fo s l).1 ≤ x ∧ x ≤ (S.fo s l).2 := by
  induction l with
  | nil => exact fun h _ => h
  | cons y l ih =>
    intro s h hl
    have h1 := hl y (List.mem_cons_self ..)
    exact ih (s := S.bo s y) ⟨by show max _ _ ≤ _; omega, by show _ ≤ min _ _; omega⟩ fun z hz => hl z (List.mem_cons_of_mem _ hz)
theorem S.Bk.Nar.nothing {b : S.Bk} {o0 o : S.Ofs} {t : Nat} (h : b.Nar o0 o t 0) (ht : t ≤ b.ticks) {pre : List (Int × Int)} (hp : pre <+: b.bounds o t) (hn : ¬ (S.fo (o t) pre).1 ≤ (S.fo (o t) pre).2) (h0 : b.Holds o0) : ∀ v, ¬ b.Tru v := by
  intro v hv
  have a := h.holds h0 v hv
  have c := S.fo_mem (l := pre) (a t ht) fun y hy => hv.bound a ht (hp.subset hy)
  omega

theorem cell_boolB {w : World} {b : Nat} {cs : Array Value} (h : mblk w b = some (.cells cs 4 (0, 0))) (j : Nat) : w.cell? ⟨b, j, none⟩ = cs[j]? := cellB h j
attribute [go_sem] cell_boolB
/-- a function that entered loops over functions leaves with their marks -/
def S.mark (d : Nat) : Deferred := { target := .collected d, args := #[] }
theorem leaves_marks {F : Fence} {n : Nat} {P : Program} {fn : Func} {tmps : Array Value} {R : Ending → World → Prop} : ∀ (Ds : List Nat) (W : World), Ds.Nodup → (∀ d, d ∈ Ds → W.heap[d]? = some (.deferred (some []))) →
    (∀ W', W'.os = W.os → W'.tape = W.tape → W'.output = W.output → W'.heap.size = W.heap.size → (∀ b, b ∉ Ds → W'.heap[b]? = W.heap[b]?) → LeavesIn F n P fn tmps R [] .returning W') →
    LeavesInM F n P fn tmps R (Ds.map S.mark) .returning W
  | [], W, _, _, h => h W rfl rfl rfl rfl (fun _ _ => rfl)
  | d :: Ds, W, hn, hd, h => by
    obtain ⟨n1, n2⟩ := List.nodup_cons.1 hn
    refine ⟨by simp, .inl ⟨d, _, rfl, run_takeDeferred (hd d (by simp)), ?_⟩⟩
    refine leaves_marks Ds _ n2 (fun e he => ?_) (fun W' a1 a2 a3 a4 a5 => ?_)
    · exact (World.putObj_heap_other (fun q => n1 (by rw [← q]; exact he))).trans (hd e (by simp [he]))
    · exact h W' (a1.trans rfl) (a2.trans rfl) (a3.trans rfl) (a4.trans (by simp)) (fun b hb => (a5 b (fun q => hb (by simp [q]))).trans (World.putObj_heap_other (fun q => hb (by simp [q]))))

end Go.Proofs.Ytcadpdbadgejfaa
