import Derived.Test.YtnaibklajocejaaCalA
/- The contracts of dial's sums, and of a minute that is divided into its parts. -/
namespace Go.Proofs.Ytnaibklajocejaa
open Go.RowKit

namespace D
/-- all numbers of a list, added up -/
def tot (l : List Int) : Int := l.foldr (· + ·) 0
theorem tot_snoc (l : List Int) (z : Int) : tot (l ++ [z]) = tot l + z := by
  induction l with
  | nil => simp [tot]
  | cons y l ih => simp only [tot, List.cons_append, List.foldr_cons] at *; omega
theorem tot_take (l : List Int) (k : Nat) (h : k < l.length) : tot (l.take (k + 1)) = tot (l.take k) + l.getD k 0 := by
  rw [List.take_succ_eq_append_getElem h, tot_snoc]
  simp [List.getD_eq_getElem?_getD, List.getElem?_eq_getElem h]
end D

theorem wrap_add (a b : Int) : wrap64 (wrap64 a + b) = wrap64 (a + b) := by
  unfold wrap64; omega

theorem sum_any (b off : Nat) (zs : List Int) (c : Nat) (w : World) (hl : zs.length ≤ 4611686018427387904)
    (hc : ∀ k, k < zs.length → w.cell? ⟨b, off + k, none⟩ = some (.int .i64 (zs.getD k 0))) :
    Calls Try.prog 84 #[.slice (some ⟨b, off, none⟩) zs.length c] w fun e w' => e = .returned (.int .i64 (wrap64 (D.tot zs))) ∧ w = w' := by
  go_enter Try.func84, Try.ntmps84
  go_wp2
  go_loop [3, 8, 5] (fun t i _ => ∃ k : Nat, k ≤ zs.length ∧ i = .int .i64 k ∧ t = .int .i64 (wrap64 (D.tot (zs.take k)))) (fun _ i _ => zs.length - (intOf i).toNat)
  case atStart => exact ⟨0, Nat.zero_le _, rfl, by simp [D.tot, wrap64]⟩
  case round =>
    obtain ⟨k, hk, rfl, rfl⟩ := hrel
    by_cases hlt : k < zs.length
    · have hcell := hc k hlt
      have hts := Lib.hid (D.tot_take zs k hlt)
      generalize zs.getD k 0 = z at *
      generalize hT : D.tot (zs.take k) = T at *
      have HT := Lib.hid hT
      clear hT hc
      go_wp2
      go_round
      case rel => exact ⟨k + 1, by omega, by go_num, by rw [hts.out, wrap_add]⟩
      case measure => simp [intOf]; omega
    · clear hc
      go_wp2
      go_ret
      exact ⟨ret_int (by rw [List.take_of_length_le (by omega)]), rfl⟩

theorem parts_any (w : World) : Calls Try.prog 102 #[] w fun e w' => e = .returned (.agg #[.func (.func 81) #[] #[], .func (.func 111) #[] #[], .func (.func 107) #[] #[], .func (.func 112) #[] #[], .func (.func 113) #[] #[], .func (.func 114) #[] #[]]) ∧ Up w w' := by
  go_enter Try.func102, Try.ntmps102
  go_wp2
  exact bodyPost_ret (v := .agg #[.func (.func 81) #[] #[], .func (.func 111) #[] #[], .func (.func 107) #[] #[], .func (.func 112) #[] #[], .func (.func 113) #[] #[], .func (.func 114) #[] #[]]) (by simp [results, Try.results102, go_sem]) rfl ⟨rfl, (Up.refl _).alloc _⟩

theorem floor_eq (n k v : Int) (w : World) (hk : 1 ≤ k) (hk2 : k ≤ 9223372036854775807) (hn : -9223372036854775808 ≤ n) (hn2 : n ≤ 9223372036854775807) (hv : Hid (n / k = v)) : Calls Try.prog 103 #[.int .i64 n, .int .i64 k] w fun e w' => e = .returned (.int .i64 v) ∧ w = w' :=
  (floor_any n k w hk hk2 hn hn2).mono fun e w' ⟨he, hw⟩ => ⟨by rw [he, hv.out], hw⟩

/-- a reading's value -/
abbrev rd (a b c d : Int) : Value := .agg #[.int .i64 a, .int .i64 b, .int .i64 c, .int .i64 d]
theorem parts1_any (a b c d n : Int) (w : World) : Calls Try.prog 111 #[rd a b c d, .int .i64 n] w fun e w' => e = .returned (rd n b c d) ∧ Up w w' := by
  go_enter Try.func111, Try.ntmps111
  go_wp2
  exact bodyPost_ret (v := rd n b c d) (by simp [results, Try.results111, go_sem]) rfl ⟨rfl, (((Up.refl _).alloc _).alloc _)⟩
theorem parts2_any (a b c d n : Int) (w : World) : Calls Try.prog 112 #[rd a b c d, .int .i64 n] w fun e w' => e = .returned (rd a n c d) ∧ Up w w' := by
  go_enter Try.func112, Try.ntmps112
  go_wp2
  exact bodyPost_ret (v := rd a n c d) (by simp [results, Try.results112, go_sem]) rfl ⟨rfl, (((Up.refl _).alloc _).alloc _)⟩
theorem parts3_any (a b c d n : Int) (w : World) : Calls Try.prog 114 #[rd a b c d, .int .i64 n] w fun e w' => e = .returned (rd a b n d) ∧ Up w w' := by
  go_enter Try.func114, Try.ntmps114
  go_wp2
  exact bodyPost_ret (v := rd a b n d) (by simp [results, Try.results114, go_sem]) rfl ⟨rfl, (((Up.refl _).alloc _).alloc _)⟩

theorem wrap_back (t k : Int) (hk : 1 ≤ k) (hk2 : k ≤ 9223372036854775807) : wrap64 (t - wrap64 (t / k * k)) = t % k := by
  have a := Int.emod_nonneg t (b := k) (by omega)
  have b := Int.emod_lt_of_pos t (b := k) (by omega)
  have c := Int.mul_ediv_add_emod t k
  rw [Int.mul_comm] at c
  unfold wrap64; omega

theorem set4_same {w : World} {b : Nat} {a0 a1 a2 a3 : Value} {t : TypeId} {fr : Nat × Nat} (h : mblk w b = some (.cells #[a0, a1, a2, a3] t fr)) (v0 v1 v2 v3 : Value) :
    mblk ((((w.setCell ⟨b, 0, none⟩ v0).setCell ⟨b, 1, none⟩ v1).setCell ⟨b, 2, none⟩ v2).setCell ⟨b, 3, none⟩ v3) b = some (.cells #[v0, v1, v2, v3] t fr) := by
  have q := blk_put (blk_put (blk_put (blk_put h 0 v0) 1 v1) 2 v2) 3 v3
  simpa using q
theorem set4_other (w : World) {b n : Nat} (hn : n ≠ b) (v0 v1 v2 v3 : Value) :
    mblk ((((w.setCell ⟨b, 0, none⟩ v0).setCell ⟨b, 1, none⟩ v1).setCell ⟨b, 2, none⟩ v2).setCell ⟨b, 3, none⟩ v3) n = mblk w n := by
  rw [blk_set _ _ _ _ hn, blk_set _ _ _ _ hn, blk_set _ _ _ _ hn, blk_set _ _ _ _ hn]
theorem Up.set4 {w w' : World} (h : Up w w') {b : Nat} (hb : w.heap.size ≤ b) (v0 v1 v2 v3 : Value) :
    Up w ((((w'.setCell ⟨b, 0, none⟩ v0).setCell ⟨b, 1, none⟩ v1).setCell ⟨b, 2, none⟩ v2).setCell ⟨b, 3, none⟩ v3) :=
  (((h.set hb v0).set hb v1).set hb v2).set hb v3

/-- what holds between two rounds of divided's loop -/
def Dv (cs : Array Value) (t q N1 T1 N2 T2 : Int) (w : World) (t1 i : Value) (wr : World) : Prop :=
  (i = .int .i64 0 ∧ t1 = .int .i64 t ∧ mblk wr w.heap.size = some (.cells cs 87) ∧ mblk wr (w.heap.size + 1) = some (.cells #[.int .i64 0, .int .i64 0, .int .i64 0, .int .i64 0] 27) ∧ mblk wr (w.heap.size + 1 + 1) = some (.cells #[.int .i64 0, .int .i64 0, .int .i64 0, .int .i64 q] 27) ∧ Up w wr) ∨
  (i = .int .i64 1 ∧ t1 = .int .i64 T1 ∧ mblk wr w.heap.size = some (.cells cs 87) ∧ mblk wr (w.heap.size + 1) = some (.cells #[.int .i64 0, .int .i64 0, .int .i64 0, .int .i64 0] 27) ∧ mblk wr (w.heap.size + 1 + 1) = some (.cells #[.int .i64 N1, .int .i64 0, .int .i64 0, .int .i64 q] 27) ∧ Up w wr) ∨
  (i = .int .i64 2 ∧ t1 = .int .i64 T2 ∧ mblk wr w.heap.size = some (.cells cs 87) ∧ mblk wr (w.heap.size + 1) = some (.cells #[.int .i64 0, .int .i64 0, .int .i64 0, .int .i64 0] 27) ∧ mblk wr (w.heap.size + 1 + 1) = some (.cells #[.int .i64 N1, .int .i64 N2, .int .i64 0, .int .i64 q] 27) ∧ Up w wr) ∨
  (i = .int .i64 3 ∧ t1 = .int .i64 0 ∧ mblk wr w.heap.size = some (.cells cs 87) ∧ mblk wr (w.heap.size + 1) = some (.cells #[.int .i64 0, .int .i64 0, .int .i64 0, .int .i64 0] 27) ∧ mblk wr (w.heap.size + 1 + 1) = some (.cells #[.int .i64 N1, .int .i64 N2, .int .i64 T2, .int .i64 q] 27) ∧ Up w wr)
/-- the parts' value -/
abbrev partsV : Array Value := #[.func (.func 81) #[] #[], .func (.func 111) #[] #[], .func (.func 107) #[] #[], .func (.func 112) #[] #[], .func (.func 113) #[] #[], .func (.func 114) #[] #[]]
set_option maxRecDepth 100000 in
set_option maxHeartbeats 1000000 in
theorem divided_core {cs : Array Value} {h m s d : Int} {x : Nat → Int} (C : Cal cs h m s d x) (t q N1 T1 N2 T2 : Int) (w : World) (h1 : 1 ≤ h) (h2 : h ≤ 24) (m1 : 1 ≤ m) (m2 : m ≤ 60) (hn : -9223372036854775808 ≤ t) (hn2 : t ≤ 9223372036854775807)
    (E1 : Hid (t / (h * m) = N1)) (E2 : Hid (wrap64 (t - wrap64 (N1 * (h * m))) = T1)) (E3 : Hid (T1 / m = N2)) (E4 : Hid (wrap64 (T1 - wrap64 (N2 * m)) = T2)) (b1 : 0 ≤ T1) (b2 : T1 < h * m) (c1 : 0 ≤ T2) (c2 : T2 < m) :
    Calls Try.prog 87 #[.agg cs, .int .i64 t, .int .i64 q] w fun e w' => e = .returned (rd N1 N2 T2 q) ∧ Up w w' := by
  have hs := Lib.hid C.size
  have E5 := Lib.hid (Int.ediv_one T2)
  obtain ⟨a1, a2⟩ := D.mul_bd h m h1 h2 m1 m2
  have i0 : ∀ w, (Instr.index 141 (.agg partsV) (.int .i64 0)).run Try.prog w = .ok (.agg #[.func (.func 81) #[] #[], .func (.func 111) #[] #[]]) w := fun _ => by kernel_rfl
  have i1 : ∀ w, (Instr.index 141 (.agg partsV) (.int .i64 1)).run Try.prog w = .ok (.agg #[.func (.func 107) #[] #[], .func (.func 112) #[] #[]]) w := fun _ => by kernel_rfl
  have i2 : ∀ w, (Instr.index 141 (.agg partsV) (.int .i64 2)).run Try.prog w = .ok (.agg #[.func (.func 113) #[] #[], .func (.func 114) #[] #[]]) w := fun _ => by kernel_rfl
  go_enter Try.func87, Try.ntmps87
  go_wp2_with fail
  refine (parts_any _).mono ?_
  rintro e w1 ⟨rfl, u1⟩
  obtain ⟨f1, g1, z1⟩ := u1.facts
  simp at z1
  have z2 : w.heap.size < w1.heap.size := by omega
  have z3 : w.heap.size + 1 < w1.heap.size := by omega
  have z4 : w.heap.size + 1 + 1 < w1.heap.size := by omega
  have k1 := u1.blk (b := w.heap.size) (o := .cells cs 87) (by rw [blk_past _ _ _ (by simp; omega), blk_past _ _ _ (by simp), blk_new _ _ _ rfl])
  have k2 := u1.blk (b := w.heap.size + 1) (o := .cells #[.int .i64 0, .int .i64 0, .int .i64 0, .int .i64 0] 27) (by rw [blk_past _ _ _ (by simp), blk_new _ _ _ (by simp)])
  have k3 := u1.blk (b := w.heap.size + 1 + 1) (o := .cells #[.int .i64 0, .int .i64 0, .int .i64 0, .int .i64 q] 27) (by rw [blk_new _ _ _ (by simp)])
  have U1 : Up w w1 := Up.trans (((Up.refl _).alloc _).alloc _ |>.alloc _) u1
  clear f1 g1 u1 z1 z2 z3 z4
  go_wp2_with fail
  go_loopw [1, 9, 10, 14] (fun t1 _ _ i wr => Dv cs t q N1 T1 N2 T2 w t1 i wr) (fun _ _ _ i _ => 3 - (intOf i).toNat)
  case atStart => exact .inl ⟨rfl, rfl, k1, k2, k3, U1⟩
  case round =>
    rcases hrel with ⟨rfl, rfl, k1, k2, k3, U1⟩ | ⟨rfl, rfl, k1, k2, k3, U1⟩ | ⟨rfl, rfl, k1, k2, k3, U1⟩ | ⟨rfl, rfl, k1, k2, k3, U1⟩
    · have l1 := blk_lt k1
      have l2 := blk_lt k2
      have l3 := blk_lt k3
      have r3 := cellB k3
      go_wp2_with fail
      refine (mod_any C _ h1 h2 m1 m2).mono ?_
      rintro e w2 ⟨rfl, u2⟩
      have y1 := u2.blk (by rw [blk_past _ _ _ l1]; exact k1)
      have y2 := u2.blk (by rw [blk_past _ _ _ l2]; exact k2)
      have y3 := u2.blk (by rw [blk_past _ _ _ l3]; exact k3)
      have y4 := u2.blk (blk_new wr _ _ rfl)
      have U2 : Up w w2 := (U1.alloc _).trans u2
      have n1 := blk_lt y1
      have n2 := blk_lt y2
      have n3 := blk_lt y3
      have n4 := blk_lt y4
      have s3 := cellB y3
      have s4 := cellB y4
      clear u2 k1 k2 k3 r3 U1
      go_wp2_with fail
      refine (floor_eq _ _ _ _ (by omega) (by omega) (by omega) (by omega) E1).mono ?_
      rintro e w2' ⟨rfl, rfl⟩
      go_wp2_with fail
      refine (parts1_any _ _ _ _ _ _).mono ?_
      rintro e w3 ⟨rfl, u3⟩
      have k1 := u3.blk y1
      have k2 := u3.blk y2
      have k3 := u3.blk y3
      have k4 := u3.blk y4
      have U3 : Up w w3 := U2.trans u3
      have l1 := blk_lt k1
      have l2 := blk_lt k2
      have l3 := blk_lt k3
      have l4 := blk_lt k4
      have s3 := cellB k3
      have s4 := cellB k4
      have fz := frozB k3
      clear u3 y1 y2 y3 y4 U2 n1 n2 n3 n4
      have e1 : ¬ w.heap.size = w.heap.size + 1 + 1 := by omega
      go_wp2_with fail
      refine (mod_any C _ h1 h2 m1 m2).mono ?_
      rintro e w4 ⟨rfl, u4⟩
      have U4 : Up w w4 := (U3.set4 (by omega) _ _ _ _).trans u4
      have y1 := u4.blk (b := w.heap.size) (by rw [set4_other _ (by omega)]; exact k1)
      have y2 := u4.blk (b := w.heap.size + 1) (by rw [set4_other _ (by omega)]; exact k2)
      have y3 := u4.blk (set4_same k3 _ _ _ _)
      clear u4 U3 k1 k2 k3 k4 l1 l2 l3 l4 s3 s4 fz
      go_wp2
      go_roundw
      case rel => exact .inr (.inl ⟨rfl, by rw [E2.out], y1, y2, y3, U4⟩)
      case measure => simp [intOf]
    · have l1 := blk_lt k1
      have l2 := blk_lt k2
      have l3 := blk_lt k3
      have r3 := cellB k3
      go_wp2_with fail
      refine (moh_any C _).mono ?_
      rintro e w2 ⟨rfl, u2⟩
      have y1 := u2.blk (by rw [blk_past _ _ _ l1]; exact k1)
      have y2 := u2.blk (by rw [blk_past _ _ _ l2]; exact k2)
      have y3 := u2.blk (by rw [blk_past _ _ _ l3]; exact k3)
      have y4 := u2.blk (blk_new wr _ _ rfl)
      have U2 : Up w w2 := (U1.alloc _).trans u2
      have n1 := blk_lt y1
      have n2 := blk_lt y2
      have n3 := blk_lt y3
      have n4 := blk_lt y4
      have s3 := cellB y3
      have s4 := cellB y4
      clear u2 k1 k2 k3 r3 U1
      go_wp2_with fail
      refine (floor_eq _ _ _ _ (by omega) (by omega) (by omega) (by omega) E3).mono ?_
      rintro e w2' ⟨rfl, rfl⟩
      go_wp2_with fail
      refine (parts2_any _ _ _ _ _ _).mono ?_
      rintro e w3 ⟨rfl, u3⟩
      have k1 := u3.blk y1
      have k2 := u3.blk y2
      have k3 := u3.blk y3
      have k4 := u3.blk y4
      have U3 : Up w w3 := U2.trans u3
      have l1 := blk_lt k1
      have l2 := blk_lt k2
      have l3 := blk_lt k3
      have l4 := blk_lt k4
      have s3 := cellB k3
      have s4 := cellB k4
      have fz := frozB k3
      clear u3 y1 y2 y3 y4 U2 n1 n2 n3 n4
      have e1 : ¬ w.heap.size = w.heap.size + 1 + 1 := by omega
      go_wp2_with fail
      refine (moh_any C _).mono ?_
      rintro e w4 ⟨rfl, u4⟩
      have U4 : Up w w4 := (U3.set4 (by omega) _ _ _ _).trans u4
      have y1 := u4.blk (b := w.heap.size) (by rw [set4_other _ (by omega)]; exact k1)
      have y2 := u4.blk (b := w.heap.size + 1) (by rw [set4_other _ (by omega)]; exact k2)
      have y3 := u4.blk (set4_same k3 _ _ _ _)
      clear u4 U3 k1 k2 k3 k4 l1 l2 l3 l4 s3 s4 fz
      go_wp2
      go_roundw
      case rel => exact .inr (.inr (.inl ⟨rfl, by rw [E4.out], y1, y2, y3, U4⟩))
      case measure => simp [intOf]
    · have l1 := blk_lt k1
      have l2 := blk_lt k2
      have l3 := blk_lt k3
      have r3 := cellB k3
      go_wp2_with fail
      refine (mom_any cs _).mono ?_
      rintro e w2 ⟨rfl, u2⟩
      have y1 := u2.blk (by rw [blk_past _ _ _ l1]; exact k1)
      have y2 := u2.blk (by rw [blk_past _ _ _ l2]; exact k2)
      have y3 := u2.blk (by rw [blk_past _ _ _ l3]; exact k3)
      have y4 := u2.blk (blk_new wr _ _ rfl)
      have U2 : Up w w2 := (U1.alloc _).trans u2
      have n1 := blk_lt y1
      have n2 := blk_lt y2
      have n3 := blk_lt y3
      have n4 := blk_lt y4
      have s3 := cellB y3
      have s4 := cellB y4
      clear u2 k1 k2 k3 r3 U1
      go_wp2_with fail
      refine (floor_eq _ _ _ _ (by omega) (by omega) (by omega) (by omega) E5).mono ?_
      rintro e w2' ⟨rfl, rfl⟩
      go_wp2_with fail
      refine (parts3_any _ _ _ _ _ _).mono ?_
      rintro e w3 ⟨rfl, u3⟩
      have k1 := u3.blk y1
      have k2 := u3.blk y2
      have k3 := u3.blk y3
      have k4 := u3.blk y4
      have U3 : Up w w3 := U2.trans u3
      have l1 := blk_lt k1
      have l2 := blk_lt k2
      have l3 := blk_lt k3
      have l4 := blk_lt k4
      have s3 := cellB k3
      have s4 := cellB k4
      have fz := frozB k3
      clear u3 y1 y2 y3 y4 U2 n1 n2 n3 n4
      have e1 : ¬ w.heap.size = w.heap.size + 1 + 1 := by omega
      go_wp2_with fail
      refine (mom_any cs _).mono ?_
      rintro e w4 ⟨rfl, u4⟩
      have U4 : Up w w4 := (U3.set4 (by omega) _ _ _ _).trans u4
      have y1 := u4.blk (b := w.heap.size) (by rw [set4_other _ (by omega)]; exact k1)
      have y2 := u4.blk (b := w.heap.size + 1) (by rw [set4_other _ (by omega)]; exact k2)
      have y3 := u4.blk (set4_same k3 _ _ _ _)
      clear u4 U3 k1 k2 k3 k4 l1 l2 l3 l4 s3 s4 fz
      go_wp2
      go_roundw
      case rel => exact .inr (.inr (.inr ⟨rfl, rfl, y1, y2, y3, U4⟩))
      case measure => simp [intOf]
    · have l1 := blk_lt k1
      have l2 := blk_lt k2
      have l3 := blk_lt k3
      have r2 := cellB k2
      have r3 := cellB k3
      have f2 := frozB k2
      go_wp2
      refine bodyPost_ret (v := rd N1 N2 T2 q) (by simp [results, Try.results87, go_sem, r2]) rfl ⟨rfl, U1.set4 (by omega) _ _ _ _⟩

theorem divided_any {cs : Array Value} {h m s d : Int} {x : Nat → Int} (C : Cal cs h m s d x) (t q : Int) (w : World) (h1 : 1 ≤ h) (h2 : h ≤ 24) (m1 : 1 ≤ m) (m2 : m ≤ 60) (hn : -9223372036854775808 ≤ t) (hn2 : t ≤ 9223372036854775807) :
    Calls Try.prog 87 #[.agg cs, .int .i64 t, .int .i64 q] w fun e w' => e = .returned (rd (t / (h * m)) (t % (h * m) / m) (t % (h * m) % m) q) ∧ Up w w' := by
  obtain ⟨a1, a2⟩ := D.mul_bd h m h1 h2 m1 m2
  exact divided_core C t q _ _ _ _ w h1 h2 m1 m2 hn hn2 (Lib.hid rfl) (Lib.hid (wrap_back t (h * m) (by omega) (by omega))) (Lib.hid rfl) (Lib.hid (wrap_back (t % (h * m)) m (by omega) (by omega)))
    (Int.emod_nonneg t (by omega)) (Int.emod_lt_of_pos t (by omega)) (Int.emod_nonneg _ (by omega)) (Int.emod_lt_of_pos _ (by omega))

end Go.Proofs.Ytnaibklajocejaa
