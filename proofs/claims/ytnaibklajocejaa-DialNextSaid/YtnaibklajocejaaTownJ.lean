import Derived.Test.YtnaibklajocejaaTownI
/- The contracts of dial's Ticks. -/
namespace Go.Proofs.Ytnaibklajocejaa
open Go.RowKit

theorem D.newInts.from {w w1 w' : World} {v : Value} {xs : List Int} (h : D.newInts w1 w' v xs) (u : Up w w1) : D.newInts w w' v xs := by
  rcases h with h | ⟨g, e, g1, g2, hc⟩
  · exact .inl h
  · exact .inr ⟨g, e, Nat.le_trans u.size g1, g2, hc⟩

set_option maxRecDepth 100000 in
set_option maxHeartbeats 2000000 in
theorem Ticks_no {h m s d : Int} {a : Option Addr} {n c : Nat} {L : List (Int × Bool)} {ah : Int} {a' : Option Addr} {n' c' : Nat} {M : List (Int × Int)} {w : World} (A : CalArg w a n c L) (B : TownArg w a' n' c' M) (p0 p1 p2 p3 : Int) (he : ¬ D.townE h m s d L ah M = 0) :
    Calls Try.prog 34 #[.agg #[.int .i64 h, .int .i64 m, .int .i64 s, .int .i64 d, .slice a n c], .agg #[.int .i64 ah, .slice a' n' c'], rd p0 p1 p2 p3] w fun e w' => e = .returned (.tuple #[.slice none 0 0, .int .i64 (D.townE h m s d L ah M)]) ∧ Up w w' := by
  obtain ⟨ts, ho, K⟩ := newTown_e (ah := ah) (d := d) (h := h) (m := m) (s := s) (c := c) (c' := c') (A.up (((Up.refl w).alloc (.cells #[.int .i64 h, .int .i64 m, .int .i64 s, .int .i64 d, .slice a n c] 24)).alloc (.cells #[.int .i64 ah, .slice a' n' c'] 44) |>.alloc (.cells #[.int .i64 p0, .int .i64 p1, .int .i64 p2, .int .i64 p3] 27))) (B.up (((Up.refl w).alloc (.cells #[.int .i64 h, .int .i64 m, .int .i64 s, .int .i64 d, .slice a n c] 24)).alloc (.cells #[.int .i64 ah, .slice a' n' c'] 44) |>.alloc (.cells #[.int .i64 p0, .int .i64 p1, .int .i64 p2, .int .i64 p3] 27)))
  have HK := Lib.hid K
  generalize D.townE h m s d L ah M = E at *
  have hE : (E != 0) = true := by simp [he]
  clear K he
  go_enter Try.func34, Try.ntmps34
  go_wp2_with fail
  refine HK.out.mono ?_
  rintro e w1 ⟨rfl, u1⟩
  have U1 := ((((Up.refl w).alloc _).alloc _).alloc _).trans u1
  clear u1
  go_wp2
  go_ret2
  exact ⟨rfl, U1.alloc _⟩

set_option maxRecDepth 100000 in
set_option maxHeartbeats 2000000 in
theorem Ticks_yes {h m s d : Int} {a : Option Addr} {n c : Nat} {L : List (Int × Bool)} {ah : Int} {a' : Option Addr} {n' c' : Nat} {M : List (Int × Int)} {w : World} (A : CalArg w a n c L) (B : TownArg w a' n' c' M) (p0 p1 p2 p3 : Int) (hv : D.valid h m s d L = true) (ht : D.townOk (D.beg h m s (D.deeds L L.length) d.toNat) ah M = true) :
    Calls Try.prog 34 #[.agg #[.int .i64 h, .int .i64 m, .int .i64 s, .int .i64 d, .slice a n c], .agg #[.int .i64 ah, .slice a' n' c'], rd p0 p1 p2 p3] w fun e w' => ∃ v, e = .returned (.tuple #[v, .int .i64 0]) ∧ Up w w' ∧ D.newInts w w' v (D.ticksV h m s d.toNat (D.deeds L L.length) ah M p0 p1 p2 p3) := by
  obtain ⟨cs, N, rfl, V, K⟩ := newTown_ok (A.up (((Up.refl w).alloc (.cells #[.int .i64 h, .int .i64 m, .int .i64 s, .int .i64 d, .slice a n c] 24)).alloc (.cells #[.int .i64 ah, .slice a' n' c'] 44) |>.alloc (.cells #[.int .i64 p0, .int .i64 p1, .int .i64 p2, .int .i64 p3] 27))) (B.up (((Up.refl w).alloc (.cells #[.int .i64 h, .int .i64 m, .int .i64 s, .int .i64 d, .slice a n c] 24)).alloc (.cells #[.int .i64 ah, .slice a' n' c'] 44) |>.alloc (.cells #[.int .i64 p0, .int .i64 p1, .int .i64 p2, .int .i64 p3] 27))) hv ht
  have HK := Lib.hid K
  have T := Town.is cs V.cal.size ah a' n' c'
  have ho := twn_ok V ah a' n' c'
  have n6 : n' ≤ 6 := by
    have hl := B.len
    simp only [D.townOk, Bool.and_eq_true, decide_eq_true_eq] at ht
    omega
  rw [Int.toNat_natCast]
  have HT := Lib.hid (fun w' (u : Up w w') => ticks_any V T (B.up u) n6 p0 p1 p2 p3)
  generalize twn cs ah a' n' c' = ts at *
  have hz := Lib.hid T.sz
  have hT := T.cal
  clear K hv ht T
  go_enter Try.func34, Try.ntmps34
  go_wp2_with fail
  refine HK.out.mono ?_
  rintro e w1 ⟨rfl, u1⟩
  have y2 := u1.blk (b := w.heap.size + 1 + 1) (o := (.cells #[.int .i64 p0, .int .i64 p1, .int .i64 p2, .int .i64 p3] 27)) (by rw [blk_new _ _ _ (by simp)])
  have U1 := ((((Up.refl w).alloc _).alloc _).alloc _).trans u1
  have l2 := blk_lt y2
  clear u1
  go_wp2_with fail
  refine (HT.out _ (U1.alloc _)).mono ?_
  rintro e w2 ⟨v, rfl, u2, hn⟩
  have U2 := (U1.alloc _).trans u2
  have HN := Lib.hid (hn.from (U1.alloc _))
  clear u2 hn y2 l2 HT HK
  go_wp2
  go_ret2
  exact ⟨_, rfl, U2, HN.out⟩

end Go.Proofs.Ytnaibklajocejaa
