import Derived.Test.YtnkeofobhlafkaaTickE
import Derived.Test.YtnkeofobhlafkaaLawB
/- The contracts of Find, Climbs, through, aheadOf and fit. -/
namespace Go.Proofs.Ytnkeofobhlafkaa
open Go.RowKit

theorem D.drop_at {xs : List Int} {k : Nat} (h : k < xs.length) : xs.drop k = xs.getD k 0 :: xs.drop (k + 1) := by
  rw [List.drop_eq_getElem_cons h, List.getD_eq_getElem?_getD, List.getElem?_eq_getElem h]
  rfl

set_option maxRecDepth 100000 in
set_option maxHeartbeats 1000000 in
theorem l_Find_any {xs : List Int} {v : Value} {w : World} (S : D.Sl w v xs) (z : Int) :
    Calls Try.prog 49 #[v, .int .i64 z] w fun e w' => e = .returned (.int .i64 (D.find z 0 xs)) ∧ Up w w' := by
  obtain ⟨a, c, rfl, lx, ma⟩ := S
  have MA := Lib.hid ma
  clear ma
  go_enter Try.func49, Try.ntmps49
  go_wp2_with fail
  go_loopw [5, 8] (fun _ t wr => ∃ k : Nat, k ≤ xs.length ∧ t = .int .i64 k ∧ Hid (D.find z 0 xs = D.find z k (xs.drop k)) ∧ Up w wr) (fun _ t _ => xs.length - (intOf t).toNat)
  case atStart => exact ⟨0, Nat.zero_le _, rfl, rfl, Up.refl _⟩
  case round =>
    obtain ⟨k, hk, rfl, hF, U⟩ := hrel
    by_cases hx : k < xs.length
    · obtain ⟨g, rfl, g1, gc⟩ := MA.out (by omega)
      have c1 := (U.facts.1 g k g1).trans (gc k hx)
      have st := D.drop_at hx
      obtain ⟨p, hp⟩ : ∃ p, xs.getD k 0 = p := ⟨_, rfl⟩
      rw [hp] at st c1
      have hF1 := hF.out
      rw [st, D.find] at hF1
      clear gc hp hF st
      by_cases he : p = z
      · rw [if_pos he] at hF1
        have h3 : Hid (D.find z 0 xs = k) := hF1
        clear hF1
        go_wp2
        go_ret
        exact ⟨by rw [h3.out]; rfl, U⟩
      · rw [if_neg he] at hF1
        have h3 : Hid (D.find z 0 xs = D.find z (k + 1) (xs.drop (k + 1))) := hF1
        clear hF1
        go_wp2
        go_roundw
        case rel => exact ⟨k + 1, by omega, by go_num, h3, U⟩
        case measure => simp [intOf]; omega
    · have st : xs.drop k = [] := List.drop_eq_nil_of_le (by omega)
      have hF1 := hF.out
      rw [st, D.find] at hF1
      have h3 : Hid (D.find z 0 xs = -1) := hF1
      clear hF hF1 st MA
      go_wp2
      go_ret
      exact ⟨by rw [h3.out]; rfl, U⟩

set_option maxRecDepth 100000 in
set_option maxHeartbeats 1000000 in
theorem l_Climbs_any {xs : List Int} {v : Value} {w : World} (S : D.Sl w v xs) (b : Int) :
    Calls Try.prog 50 #[v, .int .i64 b] w fun e w' => e = .returned (.bool (D.climb b 0 xs)) ∧ Up w w' := by
  obtain ⟨a, c, rfl, lx, ma⟩ := S
  have MA := Lib.hid ma
  clear ma
  go_enter Try.func50, Try.ntmps50
  go_wp2_with fail
  go_loopw [5, 6, 9] (fun u _ t wr => ∃ (k : Nat) (z : Int), k ≤ xs.length ∧ t = .int .i64 k ∧ u = .int .i64 z ∧ Hid (D.climb b 0 xs = D.climb b z (xs.drop k)) ∧ Up w wr) (fun _ _ t _ => xs.length - (intOf t).toNat)
  case atStart => exact ⟨0, 0, Nat.zero_le _, rfl, rfl, rfl, Up.refl _⟩
  case round =>
    obtain ⟨k, z, hk, rfl, rfl, hF, U⟩ := hrel
    by_cases hx : k < xs.length
    · obtain ⟨g, rfl, g1, gc⟩ := MA.out (by omega)
      have c1 := (U.facts.1 g k g1).trans (gc k hx)
      have st := D.drop_at hx
      obtain ⟨p, hp⟩ : ∃ p, xs.getD k 0 = p := ⟨_, rfl⟩
      rw [hp] at st c1
      have hF1 := hF.out
      rw [st, D.climb] at hF1
      have e1 : IntKind.i64.wrap (b - 1) = wrap64 (b - 1) := iw _
      have e2 : IntKind.i64.wrap (p + 1) = wrap64 (p + 1) := iw _
      obtain ⟨q, hq⟩ : ∃ q, wrap64 (b - 1) = q := ⟨_, rfl⟩
      obtain ⟨r, hr⟩ : ∃ r, wrap64 (p + 1) = r := ⟨_, rfl⟩
      rw [hq] at e1 hF1
      rw [hr] at e2 hF1
      have KL := Lib.hid (l_Lies_any p z q)
      cases hb : inB p z q
      · rw [hb, Bool.false_and] at hF1
        rw [hb] at KL
        have h3 : Hid (D.climb b 0 xs = false) := hF1
        clear hF1 gc hp hF st hq hr hb
        go_wp2_with fail
        refine (KL.out _).mono ?_
        rintro e w1 ⟨rfl, rfl⟩
        go_wp2
        go_ret
        exact ⟨by rw [h3.out]; rfl, U⟩
      · rw [hb, Bool.true_and] at hF1
        rw [hb] at KL
        have h3 : Hid (D.climb b 0 xs = D.climb b r (xs.drop (k + 1))) := hF1
        clear hF1 gc hp hF st hq hr hb
        go_wp2_with fail
        refine (KL.out _).mono ?_
        rintro e w1 ⟨rfl, rfl⟩
        go_wp2
        go_roundw
        case rel => exact ⟨k + 1, r, by omega, by go_num, by go_num, h3, U⟩
        case measure => simp [intOf]; omega
    · have st : xs.drop k = [] := List.drop_eq_nil_of_le (by omega)
      have hF1 := hF.out
      rw [st, D.climb] at hF1
      have h3 : Hid (D.climb b 0 xs = true) := hF1
      clear hF hF1 st MA
      go_wp2
      go_ret
      exact ⟨by rw [h3.out]; rfl, U⟩

theorem cell_TWN {w : World} {b : Nat} {cs : Array Value} (h : mblk w b = some (.cells cs 44 (0, 0))) (j : Nat) : w.cell? ⟨b, j, none⟩ = cs[j]? := cellB h j
attribute [local go_sem] cell_TWN cell_CAL

set_option maxRecDepth 100000 in
set_option maxHeartbeats 1000000 in
theorem l_aheadOf_any {ah : Int} {a' : Option Addr} {n' c' : Nat} {M : List (Int × Int)} {w : World} (B : TownArg w a' n' c' M) (hn : n' ≤ 6) (t : Int) :
    Calls Try.prog 52 #[.agg #[.int .i64 ah, .slice a' n' c'], .int .i64 t] w fun e w' => e = .returned (.int .i64 (D.ahAt ah M t n')) ∧ Up w w' := by
  have HB := Lib.hid B
  clear B
  go_enter Try.func52, Try.ntmps52
  go_wp2_with fail
  go_loopw [5, 6] (fun v i wr => ∃ k : Nat, k ≤ n' ∧ i = .int .i64 k ∧ v = .int .i64 (D.ahAt ah M t k) ∧ mblk wr w.heap.size = some (.cells #[.int .i64 ah, .slice a' n' c'] 44 (0, 0)) ∧ Up w wr) (fun _ i _ => n' - (intOf i).toNat)
  case atStart => exact ⟨0, Nat.zero_le _, rfl, rfl, blk_new _ _ _ rfl, (Up.refl _).alloc _⟩
  case round =>
    obtain ⟨k, hk, rfl, rfl, c1, U1⟩ := hrel
    by_cases hlt : k < n'
    · obtain ⟨b, off, rfl, hC⟩ := HB.out.mem (by omega)
      have dd := hC.up U1
      have e1 := dd.tick k (by rw [← HB.out.len]; exact hlt)
      have e2 := dd.ahead k (by rw [← HB.out.len]; exact hlt)
      have e3 := dd.lt
      have HX := Lib.hid (show D.ahAt ah M t (k + 1) = if (M.getD k (0, 0)).1 ≤ t then (M.getD k (0, 0)).2 else D.ahAt ah M t k from rfl)
      generalize M.getD k (0, 0) = z at *
      clear hC dd
      by_cases g : z.1 ≤ t
      · have HY : Hid (D.ahAt ah M t (k + 1) = z.2) := by unfold Hid; rw [HX.out, if_pos g]
        clear HX
        go_wp2
        go_roundw
        case rel => exact ⟨k + 1, by omega, by go_num, by rw [HY.out], c1, U1⟩
        case measure => simp [intOf]; omega
      · have HY : Hid (D.ahAt ah M t (k + 1) = D.ahAt ah M t k) := by unfold Hid; rw [HX.out, if_neg g]
        clear HX
        go_wp2
        go_roundw
        case rel => exact ⟨k + 1, by omega, by go_num, by rw [HY.out], c1, U1⟩
        case measure => simp [intOf]; omega
    · obtain rfl : k = n' := by omega
      go_wp2
      go_ret
      exact ⟨rfl, U1⟩

set_option maxRecDepth 100000 in
set_option maxHeartbeats 1000000 in
theorem l_through_any {h m s d : Int} {a : Option Addr} {n c : Nat} {w : World} (p0 p1 p2 p3 : Int) :
    Calls Try.prog 51 #[.agg #[.int .i64 h, .int .i64 m, .int .i64 s, .int .i64 d, .slice a n c], rd p0 p1 p2 p3] w fun e w' => e = .returned (.int .i64 (wrap64 (wrap64 (wrap64 (wrap64 (p0 * h) + p1) * m) + p2))) ∧ Up w w' := by
  go_enter Try.func51, Try.ntmps51
  go_wp2
  go_ret
  exact ⟨rfl, ((Up.refl w).alloc _).alloc _⟩

theorem cell_TW7 {w : World} {b : Nat} {cs : Array Value} (h : mblk w b = some (.cells cs 46 (0, 0))) (j : Nat) : w.cell? ⟨b, j, none⟩ = cs[j]? := cellB h j
attribute [local go_sem] cell_TW7

/-- is there a calendar, and a town of it? -/
def D.fits (h m s d : Int) (L : List (Int × Bool)) (ah : Int) (M : List (Int × Int)) : Bool := D.valid h m s d L && D.townOk (D.beg h m s (D.deeds L L.length) d.toNat) ah M
set_option maxRecDepth 100000 in
set_option maxHeartbeats 2000000 in
theorem l_fit_any {h m s d : Int} {a : Option Addr} {n c : Nat} {L : List (Int × Bool)} {ah : Int} {a' : Option Addr} {n' c' : Nat} {M : List (Int × Int)} {w : World} (A : CalArg w a n c L) (B : TownArg w a' n' c' M) :
    Calls Try.prog 48 #[.agg #[.int .i64 h, .int .i64 m, .int .i64 s, .int .i64 d, .slice a n c, .int .i64 ah, .slice a' n' c']] w fun e w' => e = .returned (.bool (D.fits h m s d L ah M)) ∧ Up w w' := by
  have U0 := (Up.refl w).alloc (.cells #[.int .i64 h, .int .i64 m, .int .i64 s, .int .i64 d, .slice a n c, .int .i64 ah, .slice a' n' c'] 46)
  have HS := Lib.hid (l_sound_any (h := h) (m := m) (s := s) (d := d) (A.up U0))
  cases hv : D.valid h m s d L
  · rw [hv] at HS
    have hE : D.fits h m s d L ah M = false := by simp [D.fits, hv]
    rw [hE]
    clear A B hv U0 hE
    go_enter Try.func48, Try.ntmps48
    go_wp2_with fail
    refine HS.out.mono ?_
    rintro e w1 ⟨rfl, u1⟩
    go_wp2
    go_ret
    exact ⟨rfl, ((Up.refl w).alloc _).trans u1⟩
  · rw [hv] at HS
    have HC := Lib.hid (fun w' (u : Up w w') => CheckTown_any (h := h) (m := m) (s := s) (d := d) (ah := ah) (c := c) (c' := c') (A.up u) (B.up u))
    have hl := B.len
    cases ht : D.townOk (D.beg h m s (D.deeds L L.length) d.toNat) ah M
    · have hE : D.fits h m s d L ah M = false := by simp [D.fits, ht]
      have hT : D.townE h m s d L ah M = 12 := by simp [D.townE, hv, ht]
      rw [hT] at HC
      rw [hE]
      clear A B hv ht hE hT hl
      go_enter Try.func48, Try.ntmps48
      go_wp2_with fail
      have c0 : mblk (w.alloc (.cells #[.int .i64 h, .int .i64 m, .int .i64 s, .int .i64 d, .slice a n c, .int .i64 ah, .slice a' n' c'] 46)) w.heap.size = some (.cells #[.int .i64 h, .int .i64 m, .int .i64 s, .int .i64 d, .slice a n c, .int .i64 ah, .slice a' n' c'] 46) := blk_new _ _ _ rfl
      refine HS.out.mono ?_
      rintro e w1 ⟨rfl, u1⟩
      have U1 := U0.trans u1
      have f1 := cellB (u1.blk c0)
      clear u1 U0 c0
      go_wp2_with fail
      refine (HC.out _ U1).mono ?_
      rintro e w2 ⟨rfl, u2⟩
      go_wp2
      go_ret
      exact ⟨rfl, U1.trans u2⟩
    · have hE : D.fits h m s d L ah M = true := by simp [D.fits, ht, hv]
      have hT : D.townE h m s d L ah M = 0 := by simp [D.townE, hv, ht]
      obtain ⟨a1, a2, ml, mb, mi⟩ := D.town_bd ht
      have n6 : ((n' : Int) ≤ 6) := by omega
      have i1 := inB_yes a1 a2
      have HL := Lib.hid (fun w => show Calls Try.prog 44 #[.int .i64 ah, .int .i64 (-1440), .int .i64 1440] w fun e w' => e = .returned (.bool true) ∧ w = w' by rw [← i1]; exact l_Lies_any ah (-1440) 1440 w)
      rw [hT] at HC
      rw [hE]
      clear A B hv ht hE hT mb mi i1 hl
      go_enter Try.func48, Try.ntmps48
      go_wp2_with fail
      have c0 : mblk (w.alloc (.cells #[.int .i64 h, .int .i64 m, .int .i64 s, .int .i64 d, .slice a n c, .int .i64 ah, .slice a' n' c'] 46)) w.heap.size = some (.cells #[.int .i64 h, .int .i64 m, .int .i64 s, .int .i64 d, .slice a n c, .int .i64 ah, .slice a' n' c'] 46) := blk_new _ _ _ rfl
      refine HS.out.mono ?_
      rintro e w1 ⟨rfl, u1⟩
      have U1 := U0.trans u1
      have c1 := u1.blk c0
      have f1 := cellB c1
      clear u1 U0 c0
      go_wp2_with fail
      refine (HC.out _ U1).mono ?_
      rintro e w2 ⟨rfl, u2⟩
      have c2 := u2.blk c1
      have f2 := cellB c2
      go_wp2_with fail
      refine (HL.out _).mono ?_
      rintro e w3 ⟨rfl, rfl⟩
      go_wp2
      go_ret
      exact ⟨rfl, U1.trans u2⟩

end Go.Proofs.Ytnkeofobhlafkaa
