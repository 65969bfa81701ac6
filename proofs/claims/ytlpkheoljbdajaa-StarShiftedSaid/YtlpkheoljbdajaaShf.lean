import Derived.Test.YtlpkheoljbdajaaWdm
/- Books of which all that is read, or all that one observer reads, is more by as much. -/
namespace Go.Proofs.Ytlpkheoljbdajaa
open Go.RowKit

/-- a look that reads more, if it is one of those -/
def T.shl (c : T.T5 → Bool) (b : Int) (x : T.T5) : T.T5 := if c x then (x.1, x.2.1, x.2.2.1, x.2.2.2.1 + b, x.2.2.2.2) else x
/-- so many looks read more -/
def T.shj (c : T.T5 → Bool) (b : Int) (ls : List T.T5) (j : Nat) : List T.T5 := (ls.take j).map (T.shl c b) ++ ls.drop j
section
variable {c : T.T5 → Bool} {b : Int} {ls : List T.T5} {j : Nat}
theorem T.shj_0 : T.shj c b ls 0 = ls := by simp [T.shj]
theorem T.shj_all : T.shj c b ls ls.length = ls.map (T.shl c b) := by simp [T.shj]
theorem T.shj_len (h : j ≤ ls.length) : (T.shj c b ls j).length = ls.length := by
  unfold T.shj
  rw [List.length_append, List.length_map, List.length_take, List.length_drop]
  omega
theorem T.shj_step (h : j < ls.length) : (T.shj c b ls j).set j (T.shl c b (ls.getD j (0, 0, 0, 0, 0))) = T.shj c b ls (j + 1) := by
  unfold T.shj
  have e : ls.getD j (0, 0, 0, 0, 0) = ls[j] := by rw [List.getD_eq_getElem?_getD, List.getElem?_eq_getElem h]; rfl
  have l : ((ls.take j).map (T.shl c b)).length = j := by rw [List.length_map, List.length_take]; omega
  rw [List.drop_eq_getElem_cons h, List.set_append_right _ _ (by omega), l, Nat.sub_self, List.set_cons_zero, List.take_add_one, List.getElem?_eq_getElem h, List.map_append, e, List.append_assoc]
  rfl
theorem T.shj_at (h : j < ls.length) : (T.shj c b ls j).getD j (0, 0, 0, 0, 0) = ls.getD j (0, 0, 0, 0, 0) := by
  unfold T.shj
  have l : ((ls.take j).map (T.shl c b)).length = j := by rw [List.length_map, List.length_take]; omega
  rw [List.getD_eq_getElem?_getD, List.getElem?_append_right (by omega), l, Nat.sub_self, List.getElem?_drop, Nat.add_zero, List.getD_eq_getElem?_getD]
end
section
variable {N : Nat} {bl bh rl rh b : Int} {ps qs : List (Int × Int)} {ls : List T.T5} {o : Nat → Bool} {y : Int → Int}
/-- all offsets more by as much -/
def T.mv (b : Int) (y : Int → Int) : Int → Int := fun i => if 1 ≤ i ∧ i < 9 then y i + b else y i
theorem T.mv_n {k : Int} (h : 0 ≤ k ∧ k < 8) : T.mv b y (1 + k) = y (1 + k) + b := by unfold T.mv; rw [if_pos (by omega)]
theorem T.mv_o {i : Int} (h : i = 0 ∨ 9 ≤ i) : T.mv b y i = y i := by unfold T.mv; rw [if_neg (by omega)]
theorem T.mv_tru (B : T.Bok N bl bh rl rh ps qs ls) (h : T.Tru N bl bh rl rh ps qs ls o y) : T.Tru N (bl + b) (bh + b) rl rh ps qs (ls.map (T.shl (fun _ => true) b)) o (T.mv b y) := by
  have n1 := B.n1
  have n8 := B.n8
  refine ⟨?_, fun k hk => ?_, fun k hk => ?_, fun k hk => ?_, fun k hk ho => ?_⟩
  · have a := T.mv_n (b := b) (y := y) (k := 0) (by omega)
    rw [show (1 : Int) + 0 = 1 from rfl] at a
    rw [a, T.mv_o (.inl rfl)]
    have := h.beg
    omega
  · rw [T.mv_n (by omega), T.mv_n (by omega)]
    have := h.rat k hk
    omega
  · rw [T.mv_o (.inl rfl), T.mv_o (.inr (by omega))]
    exact h.per k hk
  · rw [T.mv_o (.inl rfl), T.mv_o (.inr (by omega))]
    exact h.pth k hk
  · rw [List.length_map] at hk
    have q := h.lok k hk ho
    have g := B.look _ (T.getD_mem (d := (0, 0, 0, 0, 0)) hk)
    have e : (ls.map (T.shl (fun _ => true) b)).getD k (0, 0, 0, 0, 0) = T.shl (fun _ => true) b (ls.getD k (0, 0, 0, 0, 0)) := by
      rw [List.getD_eq_getElem?_getD, List.getElem?_map, List.getD_eq_getElem?_getD, List.getElem?_eq_getElem hk]
      rfl
    rw [e]
    obtain ⟨⟨n, kd, w, r, e⟩, hx⟩ : ∃ x, ls.getD k (0, 0, 0, 0, 0) = x := ⟨_, rfl⟩
    rw [hx] at q g ⊢
    unfold T.shl
    rw [if_pos rfl]
    unfold T.HL at q ⊢
    dsimp only at q g ⊢
    have f : 9 ≤ T.fst kd := by rcases g.2.1 with rfl | rfl <;> decide
    rw [T.mv_n (by omega), T.mv_o (i := T.fst kd + w) (.inr (by omega))]
    omega
theorem T.shl_back (x : T.T5) : T.shl (fun _ => true) (-b) (T.shl (fun _ => true) b x) = x := by
  obtain ⟨n, kd, w, r, e⟩ := x
  unfold T.shl
  rw [if_pos rfl, if_pos rfl]
  dsimp only
  rw [show r + b + -b = r by omega]
theorem T.mv_back (B : T.Bok N (bl + b) (bh + b) rl rh ps qs (ls.map (T.shl (fun _ => true) b))) (h : T.Tru N (bl + b) (bh + b) rl rh ps qs (ls.map (T.shl (fun _ => true) b)) o y) : T.Tru N bl bh rl rh ps qs ls o (T.mv (-b) y) := by
  have q := T.mv_tru (b := -b) B h
  rw [List.map_map, show (T.shl (fun _ => true) (-b) ∘ T.shl (fun _ => true) b) = id from funext T.shl_back, List.map_id, show bl + b + -b = bl by omega, show bh + b + -b = bh by omega] at q
  exact q
/-- offsets are told more by as much, what lies between nights as it was -/
theorem T.shift_tells (B : T.Bok N bl bh rl rh ps qs ls) (B' : T.Bok N (bl + b) (bh + b) rl rh ps qs (ls.map (T.shl (fun _ => true) b))) {k m l h e : Int} (hk : 0 ≤ k ∧ k < N) :
    (T.Tells (T.Tru N bl bh rl rh ps qs ls o) 0 (1 + k) l h e → T.Tells (T.Tru N (bl + b) (bh + b) rl rh ps qs (ls.map (T.shl (fun _ => true) b)) o) 0 (1 + k) (if e = 0 then l + b else 0) (if e = 0 then h + b else 0) e) ∧
    (0 ≤ m ∧ m < N → T.Tells (T.Tru N bl bh rl rh ps qs ls o) (1 + k) (1 + m) l h e → T.Tells (T.Tru N (bl + b) (bh + b) rl rh ps qs (ls.map (T.shl (fun _ => true) b)) o) (1 + k) (1 + m) (if e = 0 then l + 0 else 0) (if e = 0 then h + 0 else 0) e) := by
  have n8 := B.n8
  refine ⟨fun t => t.moved (f := T.mv b) (g := T.mv (-b)) (fun y hy => T.mv_tru B hy) (fun y hy => T.mv_back B' hy) (fun y => ?_) (fun y => ?_), fun hm t => t.moved (f := T.mv b) (g := T.mv (-b)) (fun y hy => T.mv_tru B hy) (fun y hy => T.mv_back B' hy) (fun y => ?_) (fun y => ?_)⟩
  · rw [T.mv_n (by omega), T.mv_o (.inl rfl)]; omega
  · rw [T.mv_n (by omega), T.mv_o (.inl rfl)]; omega
  · rw [T.mv_n (by omega), T.mv_n (by omega)]; omega
  · rw [T.mv_n (by omega), T.mv_n (by omega)]; omega
theorem T.shift_wrong (hv : T.valid N bl bh rl rh ps qs ls = true) (hv' : T.valid N (bl + b) (bh + b) rl rh ps qs (ls.map (T.shl (fun _ => true) b)) = true) :
    T.fewS (T.canP N (bl + b) (bh + b) rl rh ps qs (ls.map (T.shl (fun _ => true) b))) (ls.map (T.shl (fun _ => true) b)).length = T.fewS (T.canP N bl bh rl rh ps qs ls) ls.length := by
  have e : T.canP N (bl + b) (bh + b) rl rh ps qs (ls.map (T.shl (fun _ => true) b)) = T.canP N bl bh rl rh ps qs ls := funext fun s => Bool.eq_iff_iff.2 ((T.canP_tru hv').trans (Iff.trans ⟨fun ⟨y, hy⟩ => ⟨_, T.mv_back (T.valid_bok hv') hy⟩, fun ⟨y, hy⟩ => ⟨_, T.mv_tru (T.valid_bok hv) hy⟩⟩ (T.canP_tru hv).symm))
  rw [e, List.length_map]
/-- one personal error more by as much -/
def T.mo (w : Int) (b : Int) (y : Int → Int) : Int → Int := fun i => if i = 9 + w then y i - b else y i
theorem T.mo_w {w : Int} : T.mo w b y (9 + w) = y (9 + w) - b := by unfold T.mo; rw [if_pos rfl]
theorem T.mo_o {w i : Int} (h : i ≠ 9 + w) : T.mo w b y i = y i := by unfold T.mo; rw [if_neg h]
def T.his (w : Int) (x : T.T5) : Bool := x.2.1 == 0 && x.2.2.1 == w
theorem T.mo_tru (B : T.Bok N bl bh rl rh ps qs ls) {w : Nat} (hw : w < ps.length) (h : T.Tru N bl bh rl rh ps qs ls o y) : T.Tru N bl bh rl rh (ps.set w ((ps.getD w (0, 0)).1 + b, (ps.getD w (0, 0)).2 + b)) qs (ls.map (T.shl (T.his w) b)) o (T.mo w b y) := by
  have n1 := B.n1
  have n8 := B.n8
  have p4 := B.p4
  refine ⟨?_, fun k hk => ?_, fun k hk => ?_, fun k hk => ?_, fun k hk ho => ?_⟩
  · rw [T.mo_o (by omega), T.mo_o (by omega)]; exact h.beg
  · rw [T.mo_o (by omega), T.mo_o (by omega)]; exact h.rat k hk
  · rw [List.length_set] at hk
    have q := h.per k hk
    rw [T.set_getD hw, T.mo_o (i := 0) (by omega)]
    by_cases e : k = w
    · subst e
      rw [if_pos rfl, T.mo_w]
      dsimp only
      omega
    · rw [if_neg e, T.mo_o (by omega)]
      exact q
  · rw [T.mo_o (by omega), T.mo_o (by omega)]; exact h.pth k hk
  · rw [List.length_map] at hk
    have q := h.lok k hk ho
    have g := B.look _ (T.getD_mem (d := (0, 0, 0, 0, 0)) hk)
    have e : (ls.map (T.shl (T.his w) b)).getD k (0, 0, 0, 0, 0) = T.shl (T.his w) b (ls.getD k (0, 0, 0, 0, 0)) := by
      rw [List.getD_eq_getElem?_getD, List.getElem?_map, List.getD_eq_getElem?_getD, List.getElem?_eq_getElem hk]
      rfl
    rw [e]
    obtain ⟨⟨n, kd, v, r, e⟩, hx⟩ : ∃ x, ls.getD k (0, 0, 0, 0, 0) = x := ⟨_, rfl⟩
    rw [hx] at q g ⊢
    unfold T.shl
    unfold T.HL at q
    dsimp only at q g
    rcases g.2.1 with rfl | rfl
    · have f0 : T.fst 0 = 9 := rfl
      by_cases e : v = (w : Int)
      · subst e
        rw [if_pos (by unfold T.his; simp)]
        unfold T.HL
        dsimp only
        rw [f0] at q ⊢
        rw [T.mo_w, T.mo_o (by omega)]
        omega
      · rw [if_neg (by unfold T.his; simp [e])]
        unfold T.HL
        dsimp only
        rw [f0] at q ⊢
        rw [T.mo_o (by omega), T.mo_o (by omega)]
        exact q
    · have f1 : T.fst 1 = 13 := rfl
      rw [if_neg (by unfold T.his; simp)]
      unfold T.HL
      dsimp only
      rw [f1] at q ⊢
      rw [T.mo_o (by omega), T.mo_o (by omega)]
      exact q
theorem T.his_back {w : Int} (x : T.T5) : T.shl (T.his w) (-b) (T.shl (T.his w) b x) = x := by
  obtain ⟨n, kd, v, r, e⟩ := x
  unfold T.shl
  cases h : T.his w (n, kd, v, r, e) with
  | true =>
    have h2 : T.his w (n, kd, v, r + b, e) = true := h
    rw [if_pos rfl, if_pos h2]
    dsimp only
    rw [show r + b + -b = r by omega]
  | false =>
    rw [if_neg Bool.false_ne_true, h, if_neg Bool.false_ne_true]
theorem T.set_back {w : Nat} (hw : w < ps.length) : (ps.set w ((ps.getD w (0, 0)).1 + b, (ps.getD w (0, 0)).2 + b)).set w (((ps.set w ((ps.getD w (0, 0)).1 + b, (ps.getD w (0, 0)).2 + b)).getD w (0, 0)).1 + -b, ((ps.set w ((ps.getD w (0, 0)).1 + b, (ps.getD w (0, 0)).2 + b)).getD w (0, 0)).2 + -b) = ps := by
  rw [T.set_getD hw, if_pos rfl, List.set_set]
  dsimp only
  have e : ((ps.getD w (0, 0)).1 + b + -b, (ps.getD w (0, 0)).2 + b + -b) = ps[w] := by
    rw [List.getD_eq_getElem?_getD, List.getElem?_eq_getElem hw]
    refine Prod.ext ?_ ?_
    · show ps[w].1 + b + -b = ps[w].1; omega
    · show ps[w].2 + b + -b = ps[w].2; omega
  rw [e, List.set_getElem_self]
theorem T.mo_back {w : Nat} (B : T.Bok N bl bh rl rh (ps.set w ((ps.getD w (0, 0)).1 + b, (ps.getD w (0, 0)).2 + b)) qs (ls.map (T.shl (T.his w) b))) (hw : w < ps.length) (h : T.Tru N bl bh rl rh (ps.set w ((ps.getD w (0, 0)).1 + b, (ps.getD w (0, 0)).2 + b)) qs (ls.map (T.shl (T.his w) b)) o y) : T.Tru N bl bh rl rh ps qs ls o (T.mo w (-b) y) := by
  have q := T.mo_tru (b := -b) (w := w) B (by rw [List.length_set]; exact hw) h
  rw [T.set_back hw, List.map_map, show (T.shl (T.his w) (-b) ∘ T.shl (T.his w) b) = id from funext T.his_back, List.map_id] at q
  exact q
theorem T.his_tells {w : Nat} (B : T.Bok N bl bh rl rh ps qs ls) (B' : T.Bok N bl bh rl rh (ps.set w ((ps.getD w (0, 0)).1 + b, (ps.getD w (0, 0)).2 + b)) qs (ls.map (T.shl (T.his w) b))) (hw : w < ps.length) {l h e : Int} :
    (T.Tells (T.Tru N bl bh rl rh ps qs ls o) (9 + (w : Int)) 0 l h e → T.Tells (T.Tru N bl bh rl rh (ps.set w ((ps.getD w (0, 0)).1 + b, (ps.getD w (0, 0)).2 + b)) qs (ls.map (T.shl (T.his w) b)) o) (9 + (w : Int)) 0 (if e = 0 then l + b else 0) (if e = 0 then h + b else 0) e) ∧
    ∀ k : Int, 0 ≤ k ∧ k < N → T.Tells (T.Tru N bl bh rl rh ps qs ls o) 0 (1 + k) l h e → T.Tells (T.Tru N bl bh rl rh (ps.set w ((ps.getD w (0, 0)).1 + b, (ps.getD w (0, 0)).2 + b)) qs (ls.map (T.shl (T.his w) b)) o) 0 (1 + k) (if e = 0 then l + 0 else 0) (if e = 0 then h + 0 else 0) e := by
  have n8 := B.n8
  refine ⟨fun t => t.moved (f := T.mo w b) (g := T.mo w (-b)) (fun y hy => T.mo_tru B hw hy) (fun y hy => T.mo_back B' hw hy) (fun y => ?_) (fun y => ?_), fun k hk t => t.moved (f := T.mo w b) (g := T.mo w (-b)) (fun y hy => T.mo_tru B hw hy) (fun y hy => T.mo_back B' hw hy) (fun y => ?_) (fun y => ?_)⟩
  · rw [T.mo_w, T.mo_o (by omega)]; omega
  · rw [T.mo_w, T.mo_o (by omega)]; omega
  · rw [T.mo_o (by omega), T.mo_o (by omega)]; omega
  · rw [T.mo_o (by omega), T.mo_o (by omega)]; omega
end

end Go.Proofs.Ytlpkheoljbdajaa
