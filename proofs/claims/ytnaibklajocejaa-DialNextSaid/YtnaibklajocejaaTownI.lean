import Derived.Test.YtnaibklajocejaaTownH
/- The contracts of dial's tick, whole, and of ticks for a valid town. -/
namespace Go.Proofs.Ytnaibklajocejaa
open Go.RowKit

theorem tick_all {cs : Array Value} {h m s : Int} {n : Nat} {x : Nat → Int} (V : CalV cs h m s n x) (a b c q : Int) (w : World) :
    Calls Try.prog 62 #[.agg cs, rd a b c q] w fun e w' => e = .returned (.tuple #[.int .i64 (if D.isRd h m s n x a b c q = true then D.tk h m s x a b c q else 0), .bool (D.isRd h m s n x a b c q)]) ∧ Up w w' := by
  cases hr : D.isRd h m s n x a b c q
  · have d1 := V.d1
    have d2 := V.d2
    simpa using tick_no V.cal a b c q w V.h1 V.h2 V.m1 V.m2 V.s1 V.s2 (by omega) (by omega) hr
  · obtain ⟨a0, a1, b1, b2, c1, c2, q1, q2, _⟩ := D.isRd_bd V.h1 V.h2 V.m1 V.m2 V.s1 V.s2 hr
    obtain ⟨k, rfl⟩ : ∃ k : Nat, a = k := ⟨a.toNat, by omega⟩
    have g2 := V.h2
    have g3 := V.m2
    have := tick_yes (w := w) V.cal b c q V.h1 V.h2 V.m1 V.m2 V.s1 V.s2 V.d1 V.d2 (by omega) b1 (by omega) c1 (by omega) q1 (by omega) hr
    simpa [D.tk] using this

/-- the ticks of a local reading in a town -/
def D.ticksV (h m s : Int) (n : Nat) (x : Nat → Int) (ah : Int) (M : List (Int × Int)) (a b c q : Int) : List Int :=
  if D.divd h m a b c = true then
    D.hits (fun k => if D.isRd h m s n x (D.lmin h m a b c k / (h * m)) (D.lmin h m a b c k % (h * m) / m) (D.lmin h m a b c k % (h * m) % m) q = true then D.tk h m s x (D.lmin h m a b c k / (h * m)) (D.lmin h m a b c k % (h * m) / m) (D.lmin h m a b c k % (h * m) % m) q else 0)
      (fun k => D.isRd h m s n x (D.lmin h m a b c k / (h * m)) (D.lmin h m a b c k % (h * m) / m) (D.lmin h m a b c k % (h * m) % m) q)
      (fun j => (D.pers (wrap64 (D.tot (D.lens h m s x n))) 0 ah M).getD j 0) (M.length + 1)
  else []

/-- a new slice that holds these numbers; nil if there are none -/
def D.newInts (w w' : World) (v : Value) (xs : List Int) : Prop :=
  (xs = [] ∧ v = .slice none 0 0) ∨ ∃ g, v = .slice (some ⟨g, 0, none⟩) xs.length xs.length ∧ w.heap.size ≤ g ∧ g < w'.heap.size ∧ ∀ j, j < xs.length → w'.cell? ⟨g, j, none⟩ = (xs.map (Value.int .i64))[j]?

theorem ticks_any {ts cs : Array Value} {h m s : Int} {n : Nat} {x : Nat → Int} (V : CalV cs h m s n x) {ah : Int} {a' : Option Addr} {n' c' : Nat} (T : Town ts cs ah a' n' c') {M : List (Int × Int)} {w : World} (B : TownArg w a' n' c' M) (n6 : n' ≤ 6) (a b c q : Int) :
    Calls Try.prog 73 #[.agg ts, rd a b c q] w fun e w' => ∃ v, e = .returned v ∧ Up w w' ∧ D.newInts w w' v (D.ticksV h m s n x ah M a b c q) := by
  have KD := fun w => isDivided_any V.cal a b c q w V.h1 V.h2 V.m1 V.m2
  cases hd : D.divd h m a b c
  · rw [hd] at KD
    refine (ticks_nil T.sz T.cal a b c q w KD).mono ?_
    rintro e w' ⟨rfl, u⟩
    exact ⟨_, rfl, u, .inl ⟨by simp [D.ticksV, hd], rfl⟩⟩
  · rw [hd] at KD
    have hl := B.len
    have K := ticks_list T.sz T.cal a b c q w (n' + 1) (by omega) (fun j => (D.pers (wrap64 (D.tot (D.lens h m s x n))) 0 ah M).getD j 0) _ _ _ _ _ KD
      (fun w0 u0 => (periods_any T (fun w => total_any V.cal w V.h1 V.h2 V.m1 V.m2 V.s1 V.s2 V.d2) (B.up u0) n6).mono (by
        rintro e w' ⟨g, cap, rfl, u, g1, g2, hc⟩
        refine ⟨g, cap, rfl, u, g1, g2, fun j hj => ?_⟩
        rw [hc j hj, List.getElem?_map, List.getD_eq_getElem?_getD, List.getElem?_eq_getElem (by rw [D.pers_len]; omega)]
        rfl))
      (fun k w => local_any V.cal T a b c q k w V.h1 V.h2 V.m1 V.m2)
      (fun k w => tick_all V _ _ _ q w)
    refine K.mono ?_
    rintro e w' ⟨v, rfl, u, hv⟩
    refine ⟨v, rfl, u, ?_⟩
    unfold D.newInts D.ticksV
    rw [if_pos hd, ← hl]
    exact hv

end Go.Proofs.Ytnaibklajocejaa
