import Derived.Test.YtghelfbigbdkkaaLawB
/- The single questions of the law DialKnown. -/
namespace Go.Proofs.Ytghelfbigbdkkaa
open Go.RowKit
theorem Kn.cal0 (w : World) : CalArg w none 0 0 [] := ⟨rfl, by omega, fun h => absurd h (by omega)⟩
theorem Kn.town0 (w : World) : TownArg w none 0 0 [] := ⟨rfl, by omega, fun h => absurd h (by omega)⟩
theorem Kn.merge {P : Prop} (S : World → Prop) {G : World → Prop} (h1 : Hid (∀ w', S w' → G w') → P) (h2 : ∀ w', S w' → G w') : P := h1 (Lib.hid h2)
theorem Kn.merge2 {P : Prop} (S : World → Nat → Nat → Prop) {G : World → Nat → Nat → Prop} (h1 : Hid (∀ w' b c, S w' b c → G w' b c) → P) (h2 : ∀ w' b c, S w' b c → G w' b c) : P := h1 (Lib.hid h2)
section
variable {h m s d : Int} {a a' : Option Addr} {n c n' c' : Nat} {L : List (Int × Bool)} {ah : Int} {M : List (Int × Int)} {w : World}
abbrev Kn.cal (h m s d : Int) (a : Option Addr) (n c : Nat) : Value := .agg #[.int .i64 h, .int .i64 m, .int .i64 s, .int .i64 d, .slice a n c]
abbrev Kn.tow (ah : Int) (a : Option Addr) (n c : Nat) : Value := .agg #[.int .i64 ah, .slice a n c]
theorem Kn.townE (hv : D.valid h m s d L = false) : D.townE h m s d L ah M = 10 := by simp [D.townE, hv]
theorem Kn.apart (A : CalArg w a n c L) (hv : D.valid h m s d L = false) : Calls Try.prog 10 #[Kn.cal h m s d a n c, rd 0 0 0 0, rd 0 0 0 0] w fun e w' => e = .returned (.tuple #[.int .i64 0, .int .i64 10]) ∧ Up w w' := by
  have K := Apart_any (h := h) (m := m) (s := s) (d := d) (c := c) A 0 0 0 0 0 0 0 0
  have e : D.tickV h m s d L 0 0 0 0 = (0, 10) := by simp [D.tickV, hv]
  rw [e] at K
  exact K
theorem Kn.loc (A : CalArg w a n c L) (B : TownArg w a' n' c' M) {t x : Int} (he : D.townE h m s d L ah M = x) (hx : ¬ x = 0) : Calls Try.prog 12 #[Kn.cal h m s d a n c, Kn.tow ah a' n' c', .int .i64 t] w fun e w' => e = .returned (.tuple #[rd 0 0 0 0, .int .i64 x]) ∧ Up w w' := by
  have K := Local_no (h := h) (m := m) (s := s) (d := d) (c := c) (c' := c') (ah := ah) A B t (by rw [he]; exact hx)
  rw [he] at K
  exact K
theorem Kn.ticks (A : CalArg w a n c L) (B : TownArg w a' n' c' M) {x : Int} (he : D.townE h m s d L ah M = x) (hx : ¬ x = 0) : Calls Try.prog 13 #[Kn.cal h m s d a n c, Kn.tow ah a' n' c', rd 0 0 0 0] w fun e w' => e = .returned (.tuple #[.slice none 0 0, .int .i64 x]) ∧ Up w w' := by
  have K := Ticks_no (h := h) (m := m) (s := s) (d := d) (c := c) (c' := c') (ah := ah) A B 0 0 0 0 (by rw [he]; exact hx)
  rw [he] at K
  exact K
theorem Kn.twice (A : CalArg w a n c L) (B : TownArg w a' n' c' M) {x : Int} (he : D.townE h m s d L ah M = x) (hx : ¬ x = 0) : Calls Try.prog 14 #[Kn.cal h m s d a n c, Kn.tow ah a' n' c'] w fun e w' => e = .returned (.tuple #[.int .i64 0, .int .i64 x]) ∧ Up w w' := by
  have K := Twice_no (h := h) (m := m) (s := s) (d := d) (c := c) (c' := c') (ah := ah) A B (by rw [he]; exact hx)
  rw [he] at K
  exact K
theorem Kn.check (A : CalArg w a n c L) (B : TownArg w a' n' c' M) {x : Int} (he : D.townE h m s d L ah M = x) : Calls Try.prog 16 #[Kn.cal h m s d a n c, Kn.tow ah a' n' c'] w fun e w' => e = .returned (.int .i64 x) ∧ Up w w' := by
  have K := CheckTown_any (h := h) (m := m) (s := s) (d := d) (c := c) (c' := c') (ah := ah) A B
  rw [he] at K
  exact K
theorem Kn.tick4 (A : CalArg w a n c [(0, true)]) {p0 p1 p2 p3 : Int} (hp : D.tickV 3 4 10 2 [(0, true)] p0 p1 p2 p3 = (0, 4)) : Calls Try.prog 8 #[D.arg a n c, rd p0 p1 p2 p3] w fun e w' => e = .returned (.tuple #[.int .i64 0, .int .i64 4]) ∧ Up w w' := by
  have K := Tick_any (h := 3) (m := 4) (s := 10) (d := 2) (c := c) A p0 p1 p2 p3
  rw [hp] at K
  exact K
theorem Kn.apart4 (A : CalArg w a n c [(0, true)]) {p0 p1 p2 p3 : Int} (hp : D.tickV 3 4 10 2 [(0, true)] p0 p1 p2 p3 = (0, 4)) : Calls Try.prog 10 #[D.arg a n c, rd 0 0 0 0, rd p0 p1 p2 p3] w fun e w' => e = .returned (.tuple #[.int .i64 0, .int .i64 4]) ∧ Up w w' := by
  have K := Apart_any (h := 3) (m := 4) (s := 10) (d := 2) (c := c) A 0 0 0 0 p0 p1 p2 p3
  have e : D.tickV 3 4 10 2 [(0, true)] 0 0 0 0 = (0, 0) := by kernel_rfl
  rw [hp, e] at K
  exact K
theorem Kn.beg : D.beg 3 4 10 (D.deeds [(0, true)] ([(0, true)] : List (Int × Bool)).length) (2 : Int).toNat = 241 := by kernel_rfl
theorem Kn.len2 (A : CalArg w a n c [(0, true)]) : Calls Try.prog 5 #[D.arg a n c, .int .i64 2] w fun e w' => e = .returned (.tuple #[.int .i64 0, .int .i64 11]) ∧ Up w w' := Length_ask A 2 exV1 (by kernel_rfl)
theorem Kn.rdOut (A : CalArg w a n c [(0, true)]) {t : Int} (ht : ¬ (0 ≤ t ∧ t < 241)) : Calls Try.prog 7 #[D.arg a n c, .int .i64 t] w fun e w' => e = .returned (.tuple #[rd 0 0 0 0, .int .i64 11]) ∧ Up w w' := Reading_out A t exV1 (by rw [Kn.beg]; exact ht)
theorem Kn.next1 (A : CalArg w a n c [(0, true)]) : Calls Try.prog 11 #[D.arg a n c, .int .i64 241, .int .i64 5] w fun e w' => e = .returned (.tuple #[.int .i64 0, .int .i64 11]) ∧ Up w w' := Next_ask1 A 241 5 exV1 (by kernel_rfl)
theorem Kn.next2 (A : CalArg w a n c [(0, true)]) : Calls Try.prog 11 #[D.arg a n c, .int .i64 0, .int .i64 61] w fun e w' => e = .returned (.tuple #[.int .i64 0, .int .i64 11]) ∧ Up w w' := Next_ask2 A 0 61 exV1 (by kernel_rfl) (by omega)
theorem Kn.next3 (A : CalArg w a n c [(0, true)]) : Calls Try.prog 11 #[D.arg a n c, .int .i64 236, .int .i64 10] w fun e w' => e = .returned (.tuple #[.int .i64 0, .int .i64 4]) ∧ Up w w' :=
  Next_none A 236 10 0 exV1 (by kernel_rfl) (by omega) (by omega) (.inr ⟨fun i hi => by
    rw [List.mem_range, Kn.beg] at hi
    have : i = 0 ∨ i = 1 ∨ i = 2 ∨ i = 3 ∨ i = 4 := by omega
    rcases this with rfl | rfl | rfl | rfl | rfl <;> exact of_decide_eq_true (by kernel_rfl), rfl, rfl⟩)
theorem Kn.loc241 (A : CalArg w a n c [(0, true)]) (B : TownArg w a' n' c' [(60, 3)]) : Calls Try.prog 12 #[D.arg a n c, D.argT a' n' c', .int .i64 241] w fun e w' => e = .returned (.tuple #[rd 0 0 0 0, .int .i64 11]) ∧ Up w w' := Local_ask A B 241 exV1 exT1 (by kernel_rfl)
theorem Kn.tickN (A : CalArg w a n c [(1, false)]) : Calls Try.prog 8 #[D.arg a n c, rd 1 2 3 9] w fun e w' => e = .returned (.tuple #[.int .i64 0, .int .i64 4]) ∧ Up w w' :=
  (Tick_any A 1 2 3 9).mono fun e w' ⟨he, u⟩ => ⟨by rw [he]; kernel_rfl, u⟩
theorem Kn.rd240 (A : CalArg w a n c [(0, true)]) : Calls Try.prog 7 #[D.arg a n c, .int .i64 240] w fun e w' => e = .returned (.tuple #[rd 1 2 3 9, .int .i64 0]) ∧ Up w w' :=
  (Reading_yes A 240 1 exV1 (by omega) (by omega) (of_decide_eq_true (by kernel_rfl)) (of_decide_eq_true (by kernel_rfl))).mono fun e w' ⟨he, u⟩ => ⟨by rw [he]; kernel_rfl, u⟩
theorem Kn.tot (A : CalArg w a n c [(1, false)]) : Calls Try.prog 6 #[D.arg a n c] w fun e w' => e = .returned (.tuple #[.int .i64 239, .int .i64 0]) ∧ Up w w' :=
  (Total_yes A (by kernel_rfl)).mono fun e w' ⟨he, u⟩ => ⟨by rw [he]; kernel_rfl, u⟩
theorem Kn.len1 (A : CalArg w a n c [(0, true)]) : Calls Try.prog 5 #[D.arg a n c, .int .i64 1] w fun e w' => e = .returned (.tuple #[.int .i64 120, .int .i64 0]) ∧ Up w w' :=
  (Length_yes A 1 exV1 (by omega)).mono fun e w' ⟨he, u⟩ => ⟨by rw [he]; kernel_rfl, u⟩
theorem Kn.next4 (A : CalArg w a n c [(0, true)]) : Calls Try.prog 11 #[D.arg a n c, .int .i64 118, .int .i64 10] w fun e w' => e = .returned (.tuple #[.int .i64 120, .int .i64 0]) ∧ Up w w' :=
  Next_yes A 118 10 120 exV1 (by kernel_rfl) (by omega) (by omega) (.inl ⟨2, of_decide_eq_true (by kernel_rfl), fun i hi => by
    have : i = 0 ∨ i = 1 := by rw [List.mem_range] at hi; omega
    rcases this with rfl | rfl <;> exact of_decide_eq_true (by kernel_rfl), of_decide_eq_true (by kernel_rfl), by omega, rfl⟩)
theorem Kn.loc59 (A : CalArg w a n c [(0, true)]) (B : TownArg w a' n' c' [(60, 3)]) : Calls Try.prog 12 #[D.arg a n c, D.argT a' n' c', .int .i64 59] w fun e w' => e = .returned (.tuple #[rd 0 2 2 9, .int .i64 0]) ∧ Up w w' :=
  (Local_yes A B 59 exV1 exT1 (by kernel_rfl)).mono fun e w' ⟨he, u⟩ => ⟨by rw [he]; kernel_rfl, u⟩
theorem Kn.locM (A : CalArg w a n c [(0, true)]) : Calls Try.prog 12 #[D.arg a n c, Kn.tow (-1) none 0 0, .int .i64 0] w fun e w' => e = .returned (.tuple #[rd (-1) 2 3 0, .int .i64 0]) ∧ Up w w' :=
  (Local_yes (ah := -1) A (Kn.town0 w) 0 exV1 (by kernel_rfl) (by kernel_rfl)).mono fun e w' ⟨he, u⟩ => ⟨by rw [he]; kernel_rfl, u⟩
theorem Kn.ticks1 (A : CalArg w a n c [(0, true)]) (B : TownArg w a' n' c' [(60, 3)]) : Calls Try.prog 13 #[D.arg a n c, D.argT a' n' c', rd 1 2 3 0] w fun e w' => ∃ v, e = .returned (.tuple #[v, .int .i64 0]) ∧ Up w w' ∧ D.Sl w' v [201] :=
  (Ticks_yes A B 1 2 3 0 exV1 exT1).mono fun e w' ⟨v, he, u, hn⟩ => ⟨v, he, u, by
    have : D.ticksV 3 4 10 (2 : Int).toNat (D.deeds [(0, true)] 1) 5 [(60, 3)] 1 2 3 0 = [201] := by kernel_rfl
    rw [show D.ticksV 3 4 10 (2 : Int).toNat (D.deeds [(0, true)] ([(0, true)] : List (Int × Bool)).length) 5 [(60, 3)] 1 2 3 0 = [201] from this] at hn
    exact hn.sl (by simp)⟩
theorem Kn.ticks0 (A : CalArg w a n c [(0, true)]) (B : TownArg w a' n' c' [(60, 3)]) : Calls Try.prog 13 #[D.arg a n c, D.argT a' n' c', rd 0 0 12 0] w fun e w' => ∃ q k, e = .returned (.tuple #[.slice q 0 k, .int .i64 0]) ∧ Up w w' :=
  (Ticks_yes A B 0 0 12 0 exV1 exT1).mono fun e w' ⟨v, he, u, hn⟩ => by
    have : D.ticksV 3 4 10 (2 : Int).toNat (D.deeds [(0, true)] 1) 5 [(60, 3)] 0 0 12 0 = [] := by kernel_rfl
    rw [show D.ticksV 3 4 10 (2 : Int).toNat (D.deeds [(0, true)] ([(0, true)] : List (Int × Bool)).length) 5 [(60, 3)] 0 0 12 0 = [] from this] at hn
    obtain ⟨q, k, hv, _⟩ := hn.sl (by simp)
    exact ⟨q, k, by rw [he, hv]; rfl, u⟩
end

end Go.Proofs.Ytghelfbigbdkkaa
