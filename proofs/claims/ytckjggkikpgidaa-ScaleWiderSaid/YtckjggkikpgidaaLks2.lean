import Derived.Test.YtckjggkikpgidaaWid
/- A look of a row of the call's own is written anew. -/
namespace Go.Proofs.Ytckjggkikpgidaa
open Go.RowKit

theorem infoLook : (Try.prog.info? 71).map (fun i => (i.zero, i.size, i.bytes)) = some (some (.agg #[.int .i64 0, .int .i64 0, .int .i64 0]), 3, 24) := by kernel_rfl
theorem S.flat_one (ls : List (Int × Int × Int)) : ∀ u ∈ S.flat ls, u.oneCell' = true := by
  induction ls with
  | nil => intro u h; simp [S.flat] at h
  | cons l t ih =>
    intro u h
    have h' : u ∈ [Value.int .i64 l.1, .int .i64 l.2.1, .int .i64 l.2.2] ++ S.flat t := h
    rw [List.mem_append] at h'
    rcases h' with q | q
    · simp at q
      rcases q with rfl | rfl | rfl <;> rfl
    · exact ih u q
theorem row_open {W : World} {base size n : Nat} {e : TypeId} {v : Value} {xs : List Value} (ho : W.ownsRow base e size v n xs) (hn : 0 < n) : ∃ g cap cur, v = .slice (some ⟨g, 0, none⟩) n cap ∧ base ≤ g ∧ mblk W g = some (.cells cur e (0, 0)) ∧ n ≤ cap ∧ cap ≤ maxLen ∧ cur.size = cap * size ∧ cur.toList.take (n * size) = xs := by
  obtain ⟨_, ⟨_, h0⟩ | ⟨g, cap, cur, rfl, hg, hb, h1, h2, h3, h4⟩⟩ := ho
  · omega
  · exact ⟨g, cap, cur, rfl, hg, hb, h1, h2, h3, h4⟩
theorem lks_set {W : World} {g cap k : Nat} {cur : Array Value} {T : TypeId} {ls : List (Int × Int × Int)} {t l h : Int} (hb : mblk W g = some (.cells (((cur.setIfInBounds (k * 3) (.int .i64 t)).setIfInBounds (k * 3 + 1) (.int .i64 l)).setIfInBounds (k * 3 + 2) (.int .i64 h)) T (0, 0))) (hk : k < ls.length) (hcap : ls.length ≤ cap) (hm : ls.length ≤ 10) (hcs : cur.size = cap * 3) (htk : cur.toList.take (ls.length * 3) = S.flat ls) : Lks W (.slice (some ⟨g, 0, none⟩) ls.length cap) (ls.set k (t, l, h)) := by
  have hgl := blk_lt hb
  have hlen : (ls.set k (t, l, h)).length = ls.length := List.length_set
  refine ⟨some ⟨g, 0, none⟩, cap, by rw [hlen], by omega, by omega, fun _ => ⟨g, 0, rfl, hgl, fun i hi => ?_⟩⟩
  rw [hlen] at hi
  obtain ⟨y0, y1, y2⟩ := S.flat_at ls i hi
  have old : ∀ m u, m < ls.length * 3 → (S.flat ls)[m]? = some u → cur[m]? = some u := fun m u hm h => by
    rw [← htk, List.getElem?_take_of_lt hm, Array.getElem?_toList] at h
    exact h
  have o0 := old _ _ (by omega) y0
  have o1 := old _ _ (by omega) y1
  have o2 := old _ _ (by omega) y2
  rw [Nat.zero_add, cellB hb, cellB hb, cellB hb]
  by_cases e : i = k
  · subst e
    have hg : (ls.set i (t, l, h)).getD i (0, 0, 0) = (t, l, h) := by
      rw [List.getD_eq_getElem?_getD, List.getElem?_set_self hi]
      rfl
    rw [hg]
    refine ⟨?_, ?_, ?_⟩
    · rw [Array.getElem?_setIfInBounds_ne (by omega), Array.getElem?_setIfInBounds_ne (by omega), Array.getElem?_setIfInBounds_self_of_lt (by omega)]
    · rw [Array.getElem?_setIfInBounds_ne (by omega), Array.getElem?_setIfInBounds_self_of_lt (by simp; omega)]
    · rw [Array.getElem?_setIfInBounds_self_of_lt (by simp; omega)]
  · have hg : (ls.set k (t, l, h)).getD i (0, 0, 0) = ls.getD i (0, 0, 0) := by
      rw [List.getD_eq_getElem?_getD, List.getElem?_set_ne (fun q => e q.symm), ← List.getD_eq_getElem?_getD]
    rw [hg]
    refine ⟨?_, ?_, ?_⟩
    · rw [Array.getElem?_setIfInBounds_ne (by omega), Array.getElem?_setIfInBounds_ne (by omega), Array.getElem?_setIfInBounds_ne (by omega)]; exact o0
    · rw [Array.getElem?_setIfInBounds_ne (by omega), Array.getElem?_setIfInBounds_ne (by omega), Array.getElem?_setIfInBounds_ne (by omega)]; exact o1
    · rw [Array.getElem?_setIfInBounds_ne (by omega), Array.getElem?_setIfInBounds_ne (by omega), Array.getElem?_setIfInBounds_ne (by omega)]; exact o2

end Go.Proofs.Ytckjggkikpgidaa
