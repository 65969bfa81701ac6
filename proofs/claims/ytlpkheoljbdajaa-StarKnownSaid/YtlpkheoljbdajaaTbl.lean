import Derived.Test.YtlpkheoljbdajaaNkn
import Derived.Laws.OwnMore
/- Rows of one's own that hold things of several numbers. -/
namespace Go.Proofs.Ytlpkheoljbdajaa
open Go.RowKit

theorem keeps_grown {base size n : Nat} {e : TypeId} {W W' : World} {v : Value} {xs : List Value} (ho : W.ownsRow base e size v n xs) (hg : W.grownBy W' v.ownBlock) : KeepsOthers W W' where
  size := hg.size
  same := fun k o hk hc => by
    refine (hg.block k (Array.getElem?_eq_some_iff.1 hk).1 (fun e' => ?_)).trans hk
    obtain ⟨_, ⟨rfl, _⟩ | ⟨g, cap, cur, rfl, _, hb, _⟩⟩ := ho
    · cases e'
    · injection e' with e'
      subst e'
      rw [hb] at hk
      cases hk
      simp [Obj.isCells] at hc
theorem row_block {W : World} {base size n : Nat} {e : TypeId} {v : Value} {xs : List Value} (ho : W.ownsRow base e size v n xs) {b : Nat} (hb : b < base) : some b ≠ v.ownBlock := by
  obtain ⟨_, ⟨rfl, _⟩ | ⟨g, cap, cur, rfl, hg, _⟩⟩ := ho
  · simp [Value.ownBlock]
  · simp [Value.ownBlock]; omega
theorem row_base {W : World} {base size n : Nat} {e : TypeId} {v : Value} {xs : List Value} (ho : W.ownsRow base e size v n xs) (k : Nat) (hk : v.ownBlock = some k) : base ≤ k := by
  obtain ⟨_, ⟨rfl, _⟩ | ⟨g, cap, cur, rfl, hg, _⟩⟩ := ho
  · simp [Value.ownBlock] at hk
  · simp [Value.ownBlock] at hk; omega
theorem row_slice {W : World} {base size n : Nat} {e : TypeId} {v : Value} {xs : List Value} (ho : W.ownsRow base e size v (n + 1) xs) : ∃ g cap, v = .slice (some ⟨g, 0, none⟩) (n + 1) cap ∧ base ≤ g := by
  obtain ⟨_, ⟨_, h⟩ | ⟨g, cap, cur, rfl, hg, _⟩⟩ := ho
  · omega
  · exact ⟨g, cap, rfl, hg⟩
theorem row_val {W : World} {base size n : Nat} {e : TypeId} {v : Value} {xs : List Value} (ho : W.ownsRow base e size v n xs) : ∃ a cap, v = .slice a n cap ∧ n ≤ cap ∧ cap ≤ maxLen := by
  obtain ⟨_, ⟨rfl, rfl⟩ | ⟨g, cap, cur, rfl, hg, _, h1, h2, _⟩⟩ := ho
  · exact ⟨none, 0, rfl, Nat.le_refl _, Nat.zero_le _⟩
  · exact ⟨_, cap, rfl, h1, h2⟩
theorem row_cells {W : World} {base size n : Nat} {e : TypeId} {v : Value} {xs : List Value} (ho : W.ownsRow base e size v n xs) {row : Option Nat} (hr : ∀ r, row = some r → ∃ o : Obj, W.heap[r]? = some o ∧ o.isCells = false) : v.ownBlock = none ∨ v.ownBlock ≠ row := by
  obtain ⟨_, ⟨rfl, _⟩ | ⟨g, cap, cur, rfl, hg, hb, _⟩⟩ := ho
  · exact .inl rfl
  · refine .inr fun e => ?_
    obtain ⟨o, h1, h2⟩ := hr g e.symm
    rw [hb] at h1
    cases h1
    simp [Obj.isCells] at h2
theorem row_up {w w' : World} {base size n : Nat} {e : TypeId} {v : Value} {xs : List Value} (h : w.ownsRow base e size v n xs) (u : Up w w') : w'.ownsRow base e size v n xs := by
  refine h.kept (row := none) ⟨u.os, u.tape, u.output, u.size, fun k hk _ => Below.block u k hk⟩ ?_
  cases hv : v.ownBlock with
  | none => exact .inl rfl
  | some k => exact .inr (by simp)
theorem row_book {W W' : World} {base size n : Nat} {e : TypeId} {v : Value} {xs : List Value} (ho : W.ownsRow base e size v n xs) {row : Option Nat} (hg : W.grownBy W' row) (hr : ∀ r, row = some r → ∃ o : Obj, W.heap[r]? = some o ∧ T.book o = true) : W'.ownsRow base e size v n xs :=
  ho.kept hg (row_cells ho fun r e => by
    obtain ⟨o, h1, h2⟩ := hr r e
    exact ⟨o, h1, by cases o <;> first | rfl | (simp [T.book] at h2)⟩)
theorem row_at {W : World} {base size n : Nat} {e : TypeId} {xs : List Value} {g cap : Nat} (ho : W.ownsRow base e size (.slice (some ⟨g, 0, none⟩) n cap) n xs) {m : Nat} {u : Value} (h : xs[m]? = some u) : W.cell? ⟨g, m, none⟩ = some u := by
  obtain ⟨hl, ⟨h1, _⟩ | ⟨g', cap', cur, h1, _, hb, h2, h3, h4, h5⟩⟩ := ho
  · cases h1
  · injection h1 with h1 _ _
    injection h1 with h1
    injection h1 with h1
    subst h1
    have hm : m < n * size := by rw [← hl]; exact (List.getElem?_eq_some_iff.1 h).1
    rw [← h5, List.getElem?_take_of_lt hm, Array.getElem?_toList] at h
    exact (cellB (show mblk W g = _ from hb) m).trans h
theorem row_ne {W : World} {base size n : Nat} {e : TypeId} {v : Value} {xs : List Value} (ho : W.ownsRow base e size v n xs) {b : Nat} {o : Obj} (hb : W.heap[b]? = some o) (hne : ∀ cs, o ≠ .cells cs e (0, 0)) : some b ≠ v.ownBlock := by
  obtain ⟨_, ⟨rfl, _⟩ | ⟨g, cap, cur, rfl, hg, hc, _⟩⟩ := ho
  · simp [Value.ownBlock]
  · intro e1
    have : b = g := by simpa [Value.ownBlock] using e1
    subst this
    rw [hc] at hb
    exact hne _ (Option.some.inj hb).symm
/-- what is asked at the end is not looked at on the way -/
theorem wpIn_hid {F : Fence} {n : Nat} {P : Program} {c : Code} {R : Act → World → Prop} {a : Act} {w : World} (h : ∀ G : Act → World → Prop, Hid (∀ a w, R a w → G a w) → c.wpIn F n P (S.Nrm G) a w) : c.wpIn F n P (S.Nrm R) a w := h R (Lib.hid fun _ _ h => h)
/-- the cells of things of so many numbers -/
def T.flat {α : Type} (k : Nat) (enc : α → Nat → Int) (xs : List α) : List Value := xs.flatMap fun x => (List.range k).map fun i => Value.int .i64 (enc x i)
section
variable {α : Type} {k : Nat} {enc : α → Nat → Int} {d : α} {xs ys : List α}
theorem T.flat_app : T.flat k enc (xs ++ ys) = T.flat k enc xs ++ T.flat k enc ys := by unfold T.flat; rw [List.flatMap_append]
theorem T.flat_len : (T.flat k enc xs).length = xs.length * k := by
  induction xs with
  | nil => simp [T.flat]
  | cons x xs ih =>
    have e : T.flat k enc (x :: xs) = ((List.range k).map fun i => Value.int .i64 (enc x i)) ++ T.flat k enc xs := by simp [T.flat]
    rw [e, List.length_append, ih, List.length_map, List.length_range, List.length_cons, Nat.succ_mul, Nat.add_comm]
theorem T.flat_at {j i : Nat} (hj : j < xs.length) (hi : i < k) : (T.flat k enc xs)[j * k + i]? = some (.int .i64 (enc (xs.getD j d) i)) := by
  induction xs generalizing j with
  | nil => simp at hj
  | cons x xs ih =>
    have e : T.flat k enc (x :: xs) = ((List.range k).map fun i => Value.int .i64 (enc x i)) ++ T.flat k enc xs := by simp [T.flat]
    have hl : ((List.range k).map fun i => Value.int .i64 (enc x i)).length = k := by rw [List.length_map, List.length_range]
    rw [e]
    cases j with
    | zero =>
      rw [Nat.zero_mul, Nat.zero_add, List.getElem?_append_left (by omega), List.getElem?_map, List.getElem?_range hi]
      simp
    | succ j =>
      have : (j + 1) * k = j * k + k := Nat.succ_mul j k
      rw [List.getElem?_append_right (by omega), hl, show (j + 1) * k + i - k = j * k + i by omega]
      rw [ih (by simpa using hj)]
      simp
theorem T.flat_one : ∀ u ∈ T.flat k enc xs, u.oneCell' = true := by
  intro u hu
  unfold T.flat at hu
  obtain ⟨x, _, h⟩ := List.mem_flatMap.1 hu
  obtain ⟨i, _, rfl⟩ := List.mem_map.1 h
  rfl
/-- a row of the call's own holds them -/
theorem Tab.of_row {W : World} {base n : Nat} {v : Value} {e : TypeId} (ho : W.ownsRow base e k v n (T.flat k enc xs)) (hk : 0 < k) (hn : n ≤ 1000000) : Tab k enc d W v xs := by
  have hlen : n = xs.length := by
    have := ho.1
    rw [T.flat_len] at this
    exact (Nat.eq_of_mul_eq_mul_right hk this).symm
  subst hlen
  obtain ⟨_, ⟨rfl, hz⟩ | ⟨g, cap, cur, rfl, hg, hb, h1, h2, h3, h4⟩⟩ := id ho
  · exact ⟨none, 0, by rw [hz], by omega, by omega, fun h => by omega⟩
  · have hgl := (Array.getElem?_eq_some_iff.1 hb).1
    refine ⟨some ⟨g, 0, none⟩, cap, rfl, h1, by omega, fun _ => ⟨g, 0, rfl, hgl, fun j hj i hi => ?_⟩⟩
    rw [Nat.zero_add]
    exact row_at ho (T.flat_at hj hi)
end

theorem grown_own {a b c : World} {q : Nat} {row : Option Nat} (h : a.grownBy b (some q)) (k : b.grownBy c row) (hr : ∀ r, row = some r → a.heap.size ≤ r) : a.grownBy c (some q) :=
  ⟨k.os.trans h.os, k.tape.trans h.tape, k.output.trans h.output, Nat.le_trans h.size k.size, fun i hi hne => (k.block i (Nat.lt_of_lt_of_le hi h.size) (fun e => by have := hr i e.symm; omega)).trans (h.block i hi hne)⟩
theorem grown_set (w : World) (b j : Nat) (v : Value) : w.grownBy (w.setCell ⟨b, j, none⟩ v) (some b) := ⟨rfl, rfl, rfl, by simp [World.setCell], fun k _ hk => Below.heap_setCell _ _ _ _ (fun e => hk (by rw [e]))⟩
theorem grown_row (w : World) (b : Nat) (cs : Array Value) : w.grownBy (w.setRow b cs) (some b) := ⟨rfl, rfl, rfl, by simp [World.setRow], fun k _ hk => by
  simp only [World.setRow, Array.getElem?_modify]
  rw [if_neg (fun e => hk (by rw [e]))]⟩
theorem cells_new {w : World} {n : Nat} (cs : List Value) (hn : n = w.heap.size) (t : TypeId) : ∀ j u, cs[j]? = some u → (w.alloc (.cells cs.toArray t)).cell? ((⟨n, 0, none⟩ : Addr).add j) = some u := by
  intro j u h
  rw [D.add_at, Nat.zero_add]
  exact (cellB (blk_new _ _ _ hn) j).trans (by simpa using h)

end Go.Proofs.Ytlpkheoljbdajaa
