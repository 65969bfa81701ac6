import Derived.Test.YtlpkheoljbdajaaTrl
import Derived.Test.YtlpkheoljbdajaaSou
import Derived.Test.YtlpkheoljbdajaaWdm
import Derived.Test.YtlpkheoljbdajaaHst
/- Books in which a personal error, or a delay, is a certain number: when they can be true. -/
namespace Go.Proofs.Ytlpkheoljbdajaa
open Go.RowKit

/-- both ends of a span, and the numbers just beyond them -/
def T.ends (lo hi : Int) (j : Nat) : Int := if j = 0 then lo else if j = 1 then hi else if j = 2 then lo - 1 else hi + 1
section
variable {N : Nat} {bl bh rl rh : Int} {ps qs : List (Int × Int)} {ls : List T.T5} {kk : Nat} {n : Int}
theorem T.set_eq {xs : List (Int × Int)} (hk : kk < xs.length) : (xs.set kk (n, n)).getD kk (0, 0) = (n, n) := by
  rw [T.set_getD hk, if_pos rfl]
theorem T.set_in {xs : List (Int × Int)} (hk : kk < xs.length) (h1 : (xs.getD kk (0, 0)).1 ≤ n) (h2 : n ≤ (xs.getD kk (0, 0)).2) (j : Nat) : (xs.getD j (0, 0)).1 ≤ ((xs.set kk (n, n)).getD j (0, 0)).1 ∧ ((xs.set kk (n, n)).getD j (0, 0)).2 ≤ (xs.getD j (0, 0)).2 := by
  rw [T.set_getD hk]
  split
  · rename_i e
    subst e
    exact ⟨h1, h2⟩
  · exact ⟨Int.le_refl _, Int.le_refl _⟩
theorem T.nar_per (hk : kk < ps.length) (h1 : (ps.getD kk (0, 0)).1 ≤ n) (h2 : n ≤ (ps.getD kk (0, 0)).2) (y : Int → Int) : T.Tr N bl bh rl rh (ps.set kk (n, n)) qs ls y ↔ T.Tr N bl bh rl rh ps qs ls y ∧ y 0 - y (9 + (kk : Int)) = n := by
  constructor
  · intro h
    refine ⟨T.tr_wd h ⟨Int.le_refl _, Int.le_refl _⟩ ⟨Int.le_refl _, Int.le_refl _⟩ (List.length_set ..).symm (fun j _ => T.set_in hk h1 h2 j) rfl (fun _ _ => ⟨Int.le_refl _, Int.le_refl _⟩) h.look, ?_⟩
    have := h.per kk (by rw [List.length_set]; exact hk)
    rw [T.set_eq hk] at this
    omega
  · rintro ⟨h, e⟩
    refine ⟨h.beg, h.rat, fun j hj => ?_, h.pth, h.lok⟩
    rw [List.length_set] at hj
    have a := h.per j hj
    rw [T.set_getD hk]
    split
    · rename_i q
      subst q
      exact ⟨by rw [e]; exact Int.le_refl _, by rw [e]; exact Int.le_refl _⟩
    · exact a
theorem T.nar_pth (hk : kk < qs.length) (h1 : (qs.getD kk (0, 0)).1 ≤ n) (h2 : n ≤ (qs.getD kk (0, 0)).2) (y : Int → Int) : T.Tr N bl bh rl rh ps (qs.set kk (n, n)) ls y ↔ T.Tr N bl bh rl rh ps qs ls y ∧ y (13 + (kk : Int)) - y 0 = n := by
  constructor
  · intro h
    refine ⟨T.tr_wd h ⟨Int.le_refl _, Int.le_refl _⟩ ⟨Int.le_refl _, Int.le_refl _⟩ rfl (fun _ _ => ⟨Int.le_refl _, Int.le_refl _⟩) (List.length_set ..).symm (fun j _ => T.set_in hk h1 h2 j) h.look, ?_⟩
    have := h.pth kk (by rw [List.length_set]; exact hk)
    rw [T.set_eq hk] at this
    omega
  · rintro ⟨h, e⟩
    refine ⟨h.beg, h.rat, h.per, fun j hj => ?_, h.lok⟩
    rw [List.length_set] at hj
    have a := h.pth j hj
    rw [T.set_getD hk]
    split
    · rename_i q
      subst q
      exact ⟨by rw [e]; exact Int.le_refl _, by rw [e]; exact Int.le_refl _⟩
    · exact a
/-- what Offset tells of a book in which this is so, for the first night: whether there is a truth -/
def T.Off0 (N : Nat) (bl bh rl rh : Int) (ps qs : List (Int × Int)) (ls : List T.T5) (l h e : Int) : Prop :=
  ∀ (w : World) (aP aQ aL : Option Addr) (nP cP nQ cQ nL cL : Nat), Sps w (.slice aP nP cP) ps → Sps w (.slice aQ nQ cQ) qs → Lks w (.slice aL nL cL) ls →
    Calls Try.prog 24 #[BoV (N : Int) bl bh rl rh (.slice aP nP cP) (.slice aQ nQ cQ) (.slice aL nL cL), .int .i64 0] w fun e' w' => e' = .returned (.tuple #[SpV l h, .int .i64 e]) ∧ Up w w'
theorem T.off0 (hN : 1 ≤ N) : ∃ l h e, ((T.valid N bl bh rl rh ps qs ls = true ∧ (e = 0 ↔ ∃ y, T.Tr N bl bh rl rh ps qs ls y)) ∨ T.valid N bl bh rl rh ps qs ls = false) ∧ T.Off0 N bl bh rl rh ps qs ls l h e := by
  cases hv : T.valid N bl bh rl rh ps qs ls with
  | false => exact ⟨0, 0, 30, .inr rfl, fun w aP aQ aL nP cP nQ cQ nL cL I J K => Offset_bad I J K (by unfold T.qErr; rw [hv]; rfl) (by decide)⟩
  | true =>
    have i0 : (0 : Int) ≤ 0 ∧ (0 : Int) < N := by omega
    obtain ⟨l, h, e, q, _⟩ := T.Tells.ex (o := T.o0) (m := 0) (i := 1 + 0) hv T.al_0 (T.al_night i0)
    refine ⟨l, h, e, .inl ⟨rfl, fun he => ?_, fun ⟨y, hy⟩ => q.has hy⟩, fun w aP aQ aL nP cP nQ cQ nL cL I J K => Offset_tells hv i0 q I J K⟩
    subst he
    exact q.ex0
theorem T.end_of {P : (Int → Int) → Prop} {f : (Int → Int) → Int} {lo hi : Int} (h : (∀ y, P y → lo ≤ f y ∧ f y ≤ hi) ∧ (∃ y, P y ∧ f y = lo) ∧ ∃ y, P y ∧ f y = hi) {j : Nat} (hj : j < 4) : (∃ y, P y ∧ f y = T.ends lo hi j) ↔ j < 2 := by
  obtain ⟨h1, h2, h3⟩ := h
  have hj' : j = 0 ∨ j = 1 ∨ j = 2 ∨ j = 3 := by omega
  rcases hj' with rfl | rfl | rfl | rfl
  · exact ⟨fun _ => by omega, fun _ => h2⟩
  · exact ⟨fun _ => by omega, fun _ => h3⟩
  · refine ⟨fun ⟨y, hy, e⟩ => ?_, fun q => by omega⟩
    have := h1 y hy
    have e' : f y = lo - 1 := e
    omega
  · refine ⟨fun ⟨y, hy, e⟩ => ?_, fun q => by omega⟩
    have := h1 y hy
    have e' : f y = hi + 1 := e
    omega
theorem T.end_per (hv : T.valid N bl bh rl rh ps qs ls = true) (hk : kk < ps.length) {lo hi : Int} (t : T.Tells (T.Tr N bl bh rl rh ps qs ls) (9 + (kk : Int)) 0 lo hi 0) {j : Nat} (hj : j < 4) :
    ∃ l h e, ((ps.getD kk (0, 0)).1 ≤ T.ends lo hi j ∧ T.ends lo hi j ≤ (ps.getD kk (0, 0)).2 → (e = 0 ↔ j < 2)) ∧ T.Off0 N bl bh rl rh (ps.set kk (T.ends lo hi j, T.ends lo hi j)) qs ls l h e := by
  obtain ⟨⟨hN, hB, hR⟩, ⟨h4, h5, h10⟩, hP, hQ, hL⟩ := T.valid_parts hv
  obtain ⟨l, h, e, q, c⟩ := T.off0 (N := N) (bl := bl) (bh := bh) (rl := rl) (rh := rh) (ps := ps.set kk (T.ends lo hi j, T.ends lo hi j)) (qs := qs) (ls := ls) (by omega)
  refine ⟨l, h, e, fun ⟨h1, h2⟩ => ?_, c⟩
  have hp := T.per_iff.1 (hP _ (T.getD_mem (d := (0, 0)) hk))
  have hv' : T.valid N bl bh rl rh (ps.set kk (T.ends lo hi j, T.ends lo hi j)) qs ls = true :=
    T.valid_mk hN hB hR (by rw [List.length_set]; exact h4) h5 h10 (T.mem_set hP (T.per_iff.2 ⟨by dsimp only; omega, Int.le_refl _, by dsimp only; omega⟩)) hQ (by rw [List.length_set]; exact hL)
  rcases q with ⟨_, q⟩ | q
  · rw [q, ← T.end_of (f := fun y => y 0 - y (9 + (kk : Int))) t.yes hj]
    exact ⟨fun ⟨y, hy⟩ => ⟨y, (T.nar_per hk h1 h2 y).1 hy⟩, fun ⟨y, hy⟩ => ⟨y, (T.nar_per hk h1 h2 y).2 hy⟩⟩
  · rw [hv'] at q
    cases q
theorem T.end_pth (hv : T.valid N bl bh rl rh ps qs ls = true) (hk : kk < qs.length) {lo hi : Int} (t : T.Tells (T.Tr N bl bh rl rh ps qs ls) 0 (13 + (kk : Int)) lo hi 0) {j : Nat} (hj : j < 4) :
    ∃ l h e, ((qs.getD kk (0, 0)).1 ≤ T.ends lo hi j ∧ T.ends lo hi j ≤ (qs.getD kk (0, 0)).2 → (e = 0 ↔ j < 2)) ∧ T.Off0 N bl bh rl rh ps (qs.set kk (T.ends lo hi j, T.ends lo hi j)) ls l h e := by
  obtain ⟨⟨hN, hB, hR⟩, ⟨h4, h5, h10⟩, hP, hQ, hL⟩ := T.valid_parts hv
  obtain ⟨l, h, e, q, c⟩ := T.off0 (N := N) (bl := bl) (bh := bh) (rl := rl) (rh := rh) (ps := ps) (qs := qs.set kk (T.ends lo hi j, T.ends lo hi j)) (ls := ls) (by omega)
  refine ⟨l, h, e, fun ⟨h1, h2⟩ => ?_, c⟩
  have hp := T.path_iff.1 (hQ _ (T.getD_mem (d := (0, 0)) hk))
  have hv' : T.valid N bl bh rl rh ps (qs.set kk (T.ends lo hi j, T.ends lo hi j)) ls = true :=
    T.valid_mk hN hB hR h4 (by rw [List.length_set]; exact h5) h10 hP (T.mem_set hQ (T.path_iff.2 ⟨by dsimp only; omega, Int.le_refl _, by dsimp only; omega⟩)) (by rw [List.length_set]; exact hL)
  rcases q with ⟨_, q⟩ | q
  · rw [q, ← T.end_of (f := fun y => y (13 + (kk : Int)) - y 0) t.yes hj]
    exact ⟨fun ⟨y, hy⟩ => ⟨y, (T.nar_pth hk h1 h2 y).1 hy⟩, fun ⟨y, hy⟩ => ⟨y, (T.nar_pth hk h1 h2 y).2 hy⟩⟩
  · rw [hv'] at q
    cases q
end

end Go.Proofs.Ytlpkheoljbdajaa
