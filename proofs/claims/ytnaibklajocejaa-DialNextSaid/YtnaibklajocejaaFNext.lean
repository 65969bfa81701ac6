import Derived.Test.YtnaibklajocejaaFNexA
import Derived.Test.YtnaibklajocejaaFNexB
/- The walk of the law DialNext. -/
namespace Go.Proofs.Ytnaibklajocejaa
open Go.RowKit

set_option maxRecDepth 100000 in
set_option maxHeartbeats 1000000 in
theorem dialNext_any {h m s d : Int} {a : Option Addr} {n c : Nat} {L : List (Int × Bool)} {w : World} (A : CalArg w a n c L) (n0 n1 n2 : Int) :
    Calls Try.prog 11 #[.agg #[.int .i64 h, .int .i64 m, .int .i64 s, .int .i64 d, .slice a n c], .agg #[.int .i64 n0, .int .i64 n1, .int .i64 n2]] w fun e w' => e = .returned (.bool true) ∧ Up w w' := by
  cases hv : D.valid h m s d L
  · have U0 := ((Up.refl w).alloc (.cells #[.int .i64 h, .int .i64 m, .int .i64 s, .int .i64 d, .slice a n c] 24)).alloc (.cells #[.int .i64 n0, .int .i64 n1, .int .i64 n2] 69)
    have H0 := Lib.hid (l_sound_any (h := h) (m := m) (s := s) (d := d) (A.up U0))
    rw [hv] at H0
    clear A hv U0
    go_enter Try.func11, Try.ntmps11
    go_wp2_with fail
    refine H0.out.mono ?_
    rintro e w1 ⟨rfl, u1⟩
    go_wp2_with fail
    refine (l_works_any _).mono ?_
    rintro e w2 ⟨rfl, u2⟩
    go_wp2
    go_ret
    exact ⟨rfl, (((Up.refl w).alloc _).alloc _).trans (u1.trans u2)⟩
  · obtain ⟨h1, h2, m1, m2, s1, s2, d1, d2⟩ := D.valid_bd hv
    have tb := D.beg_bd h m s (D.deeds L L.length) h1 h2 m1 m2 s1 s2 d.toNat
    have i1 := Int.emod_lt_of_pos n0 (show 0 < D.beg h m s (D.deeds L L.length) d.toNat by omega)
    obtain ⟨v, ok, hN⟩ := NextIs.ex (D.rS h m s (D.deeds L L.length) d.toNat) (n0 % D.beg h m s (D.deeds L L.length) d.toNat) (D.beg h m s (D.deeds L L.length) d.toNat) (1 + n1 % 60) (by omega)
    cases ok
    · exact dialNext_B A n0 n1 n2 hv v hN
    · exact dialNext_A A n0 n1 n2 hv v hN

end Go.Proofs.Ytnaibklajocejaa
