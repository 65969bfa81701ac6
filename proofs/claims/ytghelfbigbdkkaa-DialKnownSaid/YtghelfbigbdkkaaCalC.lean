import Derived.Test.YtghelfbigbdkkaaCalA
/- The contracts of dial's sums, and of a minute that is divided into its parts. -/
namespace Go.Proofs.Ytghelfbigbdkkaa
open Go.RowKit

namespace D
/-- all numbers of a list, added up -/
def tot (l : List Int) : Int := l.foldr (· + ·) 0
theorem tot_snoc (l : List Int) (z : Int) : tot (l ++ [z]) = tot l + z := by
  induction l with
  | nil => simp [tot]
  | cons y l ih => simp only [tot, List.cons_append, List.foldr_cons] at *; omega
theorem tot_take (l : List Int) (k : Nat) (h : k < l.length) : tot (l.take (k + 1)) = tot (l.take k) + l.getD k 0 := by
  rw [List.take_succ_eq_append_getElem h, tot_snoc]
  simp [List.getD_eq_getElem?_getD, List.getElem?_eq_getElem h]
end D

theorem wrap_add (a b : Int) : wrap64 (wrap64 a + b) = wrap64 (a + b) := by
  unfold wrap64; omega

theorem sum_any (b off : Nat) (zs : List Int) (c : Nat) (w : World) (hl : zs.length ≤ 4611686018427387904)
    (hc : ∀ k, k < zs.length → w.cell? ⟨b, off + k, none⟩ = some (.int .i64 (zs.getD k 0))) :
    Calls Try.prog 40 #[.slice (some ⟨b, off, none⟩) zs.length c] w fun e w' => e = .returned (.int .i64 (wrap64 (D.tot zs))) ∧ w = w' := by
  go_enter Try.func40, Try.ntmps40
  go_wp2
  go_loop [3, 8, 5] (fun t i _ => ∃ k : Nat, k ≤ zs.length ∧ i = .int .i64 k ∧ t = .int .i64 (wrap64 (D.tot (zs.take k)))) (fun _ i _ => zs.length - (intOf i).toNat)
  case atStart => exact ⟨0, Nat.zero_le _, rfl, by simp [D.tot, wrap64]⟩
  case round =>
    obtain ⟨k, hk, rfl, rfl⟩ := hrel
    by_cases hlt : k < zs.length
    · have hcell := hc k hlt
      have hts := Lib.hid (D.tot_take zs k hlt)
      generalize zs.getD k 0 = z at *
      generalize hT : D.tot (zs.take k) = T at *
      have HT := Lib.hid hT
      clear hT hc
      go_wp2
      go_round
      case rel => exact ⟨k + 1, by omega, by go_num, by rw [hts.out, wrap_add]⟩
      case measure => simp [intOf]; omega
    · clear hc
      go_wp2
      go_ret
      exact ⟨ret_int (by rw [List.take_of_length_le (by omega)]), rfl⟩

theorem parts_any (w : World) : Calls Try.prog 56 #[] w fun e w' => e = .returned (.agg #[.func (.func 38) #[] #[], .func (.func 65) #[] #[], .func (.func 61) #[] #[], .func (.func 66) #[] #[], .func (.func 67) #[] #[], .func (.func 68) #[] #[]]) ∧ Up w w' := by
  go_enter Try.func56, Try.ntmps56
  go_wp2
  exact bodyPost_ret (v := .agg #[.func (.func 38) #[] #[], .func (.func 65) #[] #[], .func (.func 61) #[] #[], .func (.func 66) #[] #[], .func (.func 67) #[] #[], .func (.func 68) #[] #[]]) (by simp [results, Try.results56, go_sem]) rfl ⟨rfl, (Up.refl _).alloc _⟩

theorem floor_eq (n k v : Int) (w : World) (hk : 1 ≤ k) (hk2 : k ≤ 9223372036854775807) (hn : -9223372036854775808 ≤ n) (hn2 : n ≤ 9223372036854775807) (hv : Hid (n / k = v)) : Calls Try.prog 57 #[.int .i64 n, .int .i64 k] w fun e w' => e = .returned (.int .i64 v) ∧ w = w' :=
  (floor_any n k w hk hk2 hn hn2).mono fun e w' ⟨he, hw⟩ => ⟨by rw [he, hv.out], hw⟩

/-- a reading's value -/
abbrev rd (a b c d : Int) : Value := .agg #[.int .i64 a, .int .i64 b, .int .i64 c, .int .i64 d]
theorem parts1_any (a b c d n : Int) (w : World) : Calls Try.prog 65 #[rd a b c d, .int .i64 n] w fun e w' => e = .returned (rd n b c d) ∧ Up w w' := by
  go_enter Try.func65, Try.ntmps65
  go_wp2
  exact bodyPost_ret (v := rd n b c d) (by simp [results, Try.results65, go_sem]) rfl ⟨rfl, (((Up.refl _).alloc _).alloc _)⟩
theorem parts2_any (a b c d n : Int) (w : World) : Calls Try.prog 66 #[rd a b c d, .int .i64 n] w fun e w' => e = .returned (rd a n c d) ∧ Up w w' := by
  go_enter Try.func66, Try.ntmps66
  go_wp2
  exact bodyPost_ret (v := rd a n c d) (by simp [results, Try.results66, go_sem]) rfl ⟨rfl, (((Up.refl _).alloc _).alloc _)⟩
theorem parts3_any (a b c d n : Int) (w : World) : Calls Try.prog 68 #[rd a b c d, .int .i64 n] w fun e w' => e = .returned (rd a b n d) ∧ Up w w' := by
  go_enter Try.func68, Try.ntmps68
  go_wp2
  exact bodyPost_ret (v := rd a b n d) (by simp [results, Try.results68, go_sem]) rfl ⟨rfl, (((Up.refl _).alloc _).alloc _)⟩

theorem wrap_back (t k : Int) (hk : 1 ≤ k) (hk2 : k ≤ 9223372036854775807) : wrap64 (t - wrap64 (t / k * k)) = t % k := by
  have a := Int.emod_nonneg t (b := k) (by omega)
  have b := Int.emod_lt_of_pos t (b := k) (by omega)
  have c := Int.mul_ediv_add_emod t k
  rw [Int.mul_comm] at c
  unfold wrap64; omega

theorem set4_same {w : World} {b : Nat} {a0 a1 a2 a3 : Value} {t : TypeId} {fr : Nat × Nat} (h : mblk w b = some (.cells #[a0, a1, a2, a3] t fr)) (v0 v1 v2 v3 : Value) :
    mblk ((((w.setCell ⟨b, 0, none⟩ v0).setCell ⟨b, 1, none⟩ v1).setCell ⟨b, 2, none⟩ v2).setCell ⟨b, 3, none⟩ v3) b = some (.cells #[v0, v1, v2, v3] t fr) := by
  have q := blk_put (blk_put (blk_put (blk_put h 0 v0) 1 v1) 2 v2) 3 v3
  simpa using q
theorem set4_other (w : World) {b n : Nat} (hn : n ≠ b) (v0 v1 v2 v3 : Value) :
    mblk ((((w.setCell ⟨b, 0, none⟩ v0).setCell ⟨b, 1, none⟩ v1).setCell ⟨b, 2, none⟩ v2).setCell ⟨b, 3, none⟩ v3) n = mblk w n := by
  rw [blk_set _ _ _ _ hn, blk_set _ _ _ _ hn, blk_set _ _ _ _ hn, blk_set _ _ _ _ hn]
theorem Up.set4 {w w' : World} (h : Up w w') {b : Nat} (hb : w.heap.size ≤ b) (v0 v1 v2 v3 : Value) :
    Up w ((((w'.setCell ⟨b, 0, none⟩ v0).setCell ⟨b, 1, none⟩ v1).setCell ⟨b, 2, none⟩ v2).setCell ⟨b, 3, none⟩ v3) :=
  (((h.set hb v0).set hb v1).set hb v2).set hb v3

/-- what holds between two rounds of divided's loop -/
def Dv (cs : Array Value) (t q N1 T1 N2 T2 : Int) (w : World) (t1 i : Value) (wr : World) : Prop :=
  (i = .int .i64 0 ∧ t1 = .int .i64 t ∧ mblk wr w.heap.size = some (.cells cs 62) ∧ mblk wr (w.heap.size + 1) = some (.cells #[.int .i64 0, .int .i64 0, .int .i64 0, .int .i64 0] 34) ∧ mblk wr (w.heap.size + 1 + 1) = some (.cells #[.int .i64 0, .int .i64 0, .int .i64 0, .int .i64 q] 34) ∧ Up w wr) ∨
  (i = .int .i64 1 ∧ t1 = .int .i64 T1 ∧ mblk wr w.heap.size = some (.cells cs 62) ∧ mblk wr (w.heap.size + 1) = some (.cells #[.int .i64 0, .int .i64 0, .int .i64 0, .int .i64 0] 34) ∧ mblk wr (w.heap.size + 1 + 1) = some (.cells #[.int .i64 N1, .int .i64 0, .int .i64 0, .int .i64 q] 34) ∧ Up w wr) ∨
  (i = .int .i64 2 ∧ t1 = .int .i64 T2 ∧ mblk wr w.heap.size = some (.cells cs 62) ∧ mblk wr (w.heap.size + 1) = some (.cells #[.int .i64 0, .int .i64 0, .int .i64 0, .int .i64 0] 34) ∧ mblk wr (w.heap.size + 1 + 1) = some (.cells #[.int .i64 N1, .int .i64 N2, .int .i64 0, .int .i64 q] 34) ∧ Up w wr) ∨
  (i = .int .i64 3 ∧ t1 = .int .i64 0 ∧ mblk wr w.heap.size = some (.cells cs 62) ∧ mblk wr (w.heap.size + 1) = some (.cells #[.int .i64 0, .int .i64 0, .int .i64 0, .int .i64 0] 34) ∧ mblk wr (w.heap.size + 1 + 1) = some (.cells #[.int .i64 N1, .int .i64 N2, .int .i64 T2, .int .i64 q] 34) ∧ Up w wr)
/-- the parts' value -/
abbrev partsV : Array Value := #[.func (.func 38) #[] #[], .func (.func 65) #[] #[], .func (.func 61) #[] #[], .func (.func 66) #[] #[], .func (.func 67) #[] #[], .func (.func 68) #[] #[]]
set_option maxRecDepth 100000 in
set_option maxHeartbeats 1000000 in
theorem divided_core {cs : Array Value} {h m s d : Int} {x : Nat → Int} (C : Cal cs h m s d x) (t q N1 T1 N2 T2 : Int) (w : World) (h1 : 1 ≤ h) (h2 : h ≤ 24) (m1 : 1 ≤ m) (m2 : m ≤ 60) (hn : -9223372036854775808 ≤ t) (hn2 : t ≤ 9223372036854775807)
    (E1 : Hid (t / (h * m) = N1)) (E2 : Hid (wrap64 (t - wrap64 (N1 * (h * m))) = T1)) (E3 : Hid (T1 / m = N2)) (E4 : Hid (wrap64 (T1 - wrap64 (N2 * m)) = T2)) (b1 : 0 ≤ T1) (b2 : T1 < h * m) (c1 : 0 ≤ T2) (c2 : T2 < m) :
    Calls Try.prog 43 #[.agg cs, .int .i64 t, .int .i64 q] w fun e w' => e = .returned (rd N1 N2 T2 q) ∧ Up w w' := by
  have hs := Lib.hid C.size
  have E5 := Lib.hid (Int.ediv_one T2)
  obtain ⟨a1, a2⟩ := D.mul_bd h m h1 h2 m1 m2
  have i0 : ∀ w, (Instr.index 110 (.agg partsV) (.int .i64 0)).run Try.prog w = .ok (.agg #[.func (.func 38) #[] #[], .func (.func 65) #[] #[]]) w := fun _ => by kernel_rfl
  have i1 : ∀ w, (Instr.index 110 (.agg partsV) (.int .i64 1)).run Try.prog w = .ok (.agg #[.func (.func 61) #[] #[], .func (.func 66) #[] #[]]) w := fun _ => by kernel_rfl
  have i2 : ∀ w, (Instr.index 110 (.agg partsV) (.int .i64 2)).run Try.prog w = .ok (.agg #[.func (.func 67) #[] #[], .func (.func 68) #[] #[]]) w := fun _ => by kernel_rfl
  go_enter Try.func43, Try.ntmps43
  go_wp2_with fail
  refine (parts_any _).mono ?_
  rintro e w1 ⟨rfl, u1⟩
  obtain ⟨f1, g1, z1⟩ := u1.facts
  simp at z1
  have z2 : w.heap.size < w1.heap.size := by omega
  have z3 : w.heap.size + 1 < w1.heap.size := by omega
  have z4 : w.heap.size + 1 + 1 < w1.heap.size := by omega
  have k1 := u1.blk (b := w.heap.size) (o := .cells cs 62) (by rw [blk_past _ _ _ (by simp; omega), blk_past _ _ _ (by simp), blk_new _ _ _ rfl])
  have k2 := u1.blk (b := w.heap.size + 1) (o := .cells #[.int .i64 0, .int .i64 0, .int .i64 0, .int .i64 0] 34) (by rw [blk_past _ _ _ (by simp), blk_new _ _ _ (by simp)])
  have k3 := u1.blk (b := w.heap.size + 1 + 1) (o := .cells #[.int .i64 0, .int .i64 0, .int .i64 0, .int .i64 q] 34) (by rw [blk_new _ _ _ (by simp)])
  have U1 : Up w w1 := Up.trans (((Up.refl _).alloc _).alloc _ |>.alloc _) u1
  clear f1 g1 u1 z1 z2 z3 z4
  go_wp2_with fail
  go_loopw [1, 9, 10, 14] (fun t1 _ _ i wr => Dv cs t q N1 T1 N2 T2 w t1 i wr) (fun _ _ _ i _ => 3 - (intOf i).toNat)
  case atStart => exact .inl ⟨rfl, rfl, k1, k2, k3, U1⟩
  case round =>
    rcases hrel with ⟨rfl, rfl, k1, k2, k3, U1⟩ | ⟨rfl, rfl, k1, k2, k3, U1⟩ | ⟨rfl, rfl, k1, k2, k3, U1⟩ | ⟨rfl, rfl, k1, k2, k3, U1⟩
    · have l1 := blk_lt k1
      have l2 := blk_lt k2
      have l3 := blk_lt k3
      have r3 := cellB k3
      go_wp2_with fail
      refine (mod_any C _ h1 h2 m1 m2).mono ?_
      rintro e w2 ⟨rfl, u2⟩
      have y1 := u2.blk (by rw [blk_past _ _ _ l1]; exact k1)
      have y2 := u2.blk (by rw [blk_past _ _ _ l2]; exact k2)
      have y3 := u2.blk (by rw [blk_past _ _ _ l3]; exact k3)
      have y4 := u2.blk (blk_new wr _ _ rfl)
      have U2 : Up w w2 := (U1.alloc _).trans u2
      have n1 := blk_lt y1
      have n2 := blk_lt y2
      have n3 := blk_lt y3
      have n4 := blk_lt y4
      have s3 := cellB y3
      have s4 := cellB y4
      clear u2 k1 k2 k3 r3 U1
      go_wp2_with fail
      refine (floor_eq _ _ _ _ (by omega) (by omega) (by omega) (by omega) E1).mono ?_
      rintro e w2' ⟨rfl, rfl⟩
      go_wp2_with fail
      refine (parts1_any _ _ _ _ _ _).mono ?_
      rintro e w3 ⟨rfl, u3⟩
      have k1 := u3.blk y1
      have k2 := u3.blk y2
      have k3 := u3.blk y3
      have k4 := u3.blk y4
      have U3 : Up w w3 := U2.trans u3
      have l1 := blk_lt k1
      have l2 := blk_lt k2
      have l3 := blk_lt k3
      have l4 := blk_lt k4
      have s3 := cellB k3
      have s4 := cellB k4
      have fz := frozB k3
      clear u3 y1 y2 y3 y4 U2 n1 n2 n3 n4
      have e1 : ¬ w.heap.size = w.heap.size + 1 + 1 := by omega
      go_wp2_with fail
      refine (mod_any C _ h1 h2 m1 m2).mono ?_
      rintro e w4 ⟨rfl, u4⟩
      have U4 : Up w w4 := (U3.set4 (by omega) _ _ _ _).trans u4
      have y1 := u4.blk (b := w.heap.size) (by rw [set4_other _ (by omega)]; exact k1)
      have y2 := u4.blk (b := w.heap.size + 1) (by rw [set4_other _ (by omega)]; exact k2)
      have y3 := u4.blk (set4_same k3 _ _ _ _)
      clear u4 U3 k1 k2 k3 k4 l1 l2 l3 l4 s3 s4 fz
      go_wp2
      go_roundw
      case rel => exact .inr (.inl ⟨rfl, by rw [E2.out], y1, y2, y3, U4⟩)
      case measure => simp [intOf]
    · have l1 := blk_lt k1
      have l2 := blk_lt k2
      have l3 := blk_lt k3
      have r3 := cellB k3
      go_wp2_with fail
      refine (moh_any C _).mono ?_
      rintro e w2 ⟨rfl, u2⟩
      have y1 := u2.blk (by rw [blk_past _ _ _ l1]; exact k1)
      have y2 := u2.blk (by rw [blk_past _ _ _ l2]; exact k2)
      have y3 := u2.blk (by rw [blk_past _ _ _ l3]; exact k3)
      have y4 := u2.blk (blk_new wr _ _ rfl)
      have U2 : Up w w2 := (U1.alloc _).trans u2
      have n1 := blk_lt y1
      have n2 := blk_lt y2
      have n3 := blk_lt y3
      have n4 := blk_lt y4
      have s3 := cellB y3
      have s4 := cellB y4
      clear u2 k1 k2 k3 r3 U1
      go_wp2_with fail
      refine (floor_eq _ _ _ _ (by omega) (by omega) (by omega) (by omega) E3).mono ?_
      rintro e w2' ⟨rfl, rfl⟩
      go_wp2_with fail
      refine (parts2_any _ _ _ _ _ _).mono ?_
      rintro e w3 ⟨rfl, u3⟩
      have k1 := u3.blk y1
      have k2 := u3.blk y2
      have k3 := u3.blk y3
      have k4 := u3.blk y4
      have U3 : Up w w3 := U2.trans u3
      have l1 := blk_lt k1
      have l2 := blk_lt k2
      have l3 := blk_lt k3
      have l4 := blk_lt k4
      have s3 := cellB k3
      have s4 := cellB k4
      have fz := frozB k3
      clear u3 y1 y2 y3 y4 U2 n1 n2 n3 n4
      have e1 : ¬ w.heap.size = w.heap.size + 1 + 1 := by omega
      go_wp2_with fail
      refine (moh_any C _).mono ?_
      rintro e w4 ⟨rfl, u4⟩
      have U4 : Up w w4 := (U3.set4 (by omega) _ _ _ _).trans u4
      have y1 := u4.blk (b := w.heap.size) (by rw [set4_other _ (by omega)]; exact k1)
      have y2 := u4.blk (b := w.heap.size + 1) (by rw [set4_other _ (by omega)]; exact k2)
      have y3 := u4.blk (set4_same k3 _ _ _ _)
      clear u4 U3 k1 k2 k3 k4 l1 l2 l3 l4 s3 s4 fz
      go_wp2
      go_roundw
      case rel => exact .inr (.inr (.inl ⟨rfl, by rw [E4.out], y1, y2, y3, U4⟩))
      case measure => simp [intOf]
    · have l1 := blk_lt k1
      have l2 := blk_lt k2
      have l3 := blk_lt k3
      have r3 := cellB k3
      go_wp2_with fail
      refine (mom_any cs _).mono ?_
      rintro e w2 ⟨rfl, u2⟩
      have y1 := u2.blk (by rw [blk_past _ _ _ l1]; exact k1)
      have y2 := u2.blk (by rw [blk_past _ _ _ l2]; exact k2)
      have y3 := u2.blk (by rw [blk_past _ _ _ l3]; exact k3)
      have y4 := u2.blk (blk_new wr _ _ rfl)
      have U2 : Up w w2 := (U1.alloc _).trans u2
      have n1 := blk_lt y1
      have n2 := blk_lt y2
      have n3 := blk_lt y3
      have n4 := blk_lt y4
      have s3 := cellB y3
      have s4 := cellB y4
      clear u2 k1 k2 k3 r3 U1
      go_wp2_with fail
      refine (floor_eq _ _ _ _ (by omega) (by omega) (by omega) (by omega) E5).mono ?_
      rintro e w2' ⟨rfl, rfl⟩
      go_wp2_with fail
      refine (parts3_any _ _ _ _ _ _).mono ?_
      rintro e w3 ⟨rfl, u3⟩
      have k1 := u3.blk y1
      have k2 := u3.blk y2
      have k3 := u3.blk y3
      have k4 := u3.blk y4
      have U3 : Up w w3 := U2.trans u3
      have l1 := blk_lt k1
      have l2 := blk_lt k2
      have l3 := blk_lt k3
      have l4 := blk_lt k4
      have s3 := cellB k3
      have s4 := cellB k4
      have fz := frozB k3
      clear u3 y1 y2 y3 y4 U2 n1 n2 n3 n4
      have e1 : ¬ w.heap.size = w.heap.size + 1 + 1 := by omega
      go_wp2_with fail
      refine (mom_any cs _).mono ?_
      rintro e w4 ⟨rfl, u4⟩
      have U4 : Up w w4 := (U3.set4 (by omega) _ _ _ _).trans u4
      have y1 := u4.blk (b := w.heap.size) (by rw [set4_other _ (by omega)]; exact k1)
      have y2 := u4.blk (b := w.heap.size + 1) (by rw [set4_other _ (by omega)]; exact k2)
      have y3 := u4.blk (set4_same k3 _ _ _ _)
      clear u4 U3 k1 k2 k3 k4 l1 l2 l3 l4 s3 s4 fz
      go_wp2
      go_roundw
      case rel => exact .inr (.inr (.inr ⟨rfl, rfl, y1, y2, y3, U4⟩))
      case measure => simp [intOf]
    · have l1 := blk_lt k1
      have l2 := blk_lt k2
      have l3 := blk_lt k3
      have r2 := cellB k2
      have r3 := cellB k3
      have f2 := frozB k2
      go_wp2
      refine bodyPost_ret (v := rd N1 N2 T2 q) (by simp [results, Try.results43, go_sem, r2]) rfl ⟨rfl, U1.set4 (by omega) _ _ _ _⟩

theorem divided_any {cs : Array Value} {h m s d : Int} {x : Nat → Int} (C : Cal cs h m s d x) (t q : Int) (w : World) (h1 : 1 ≤ h) (h2 : h ≤ 24) (m1 : 1 ≤ m) (m2 : m ≤ 60) (hn : -9223372036854775808 ≤ t) (hn2 : t ≤ 9223372036854775807) :
    Calls Try.prog 43 #[.agg cs, .int .i64 t, .int .i64 q] w fun e w' => e = .returned (rd (t / (h * m)) (t % (h * m) / m) (t % (h * m) % m) q) ∧ Up w w' := by
  obtain ⟨a1, a2⟩ := D.mul_bd h m h1 h2 m1 m2
  exact divided_core C t q _ _ _ _ w h1 h2 m1 m2 hn hn2 (Lib.hid rfl) (Lib.hid (wrap_back t (h * m) (by omega) (by omega))) (Lib.hid rfl) (Lib.hid (wrap_back (t % (h * m)) m (by omega) (by omega)))
    (Int.emod_nonneg t (by omega)) (Int.emod_lt_of_pos t (by omega)) (Int.emod_nonneg _ (by omega)) (Int.emod_lt_of_pos _ (by omega))

end Go.Proofs.Ytghelfbigbdkkaa

/- The contracts of dial's readings that are counted through, and of minutes' lengths. -/
namespace Go.Proofs.Ytghelfbigbdkkaa
open Go.RowKit

theorem minuteLength_in {cs : Array Value} {h m s d : Int} {x : Nat → Int} (C : Cal cs h m s d x) (a b c q : Int) (w : World) (h1 : 1 ≤ h) (h2 : h ≤ 24) (m1 : 1 ≤ m) (m2 : m ≤ 60) (hb : b < h - 1 ∨ c < m - 1) :
    Calls Try.prog 58 #[.agg cs, rd a b c q] w fun e w' => e = .returned (.int .i64 s) ∧ Up w w' := by
  have hs := Lib.hid C.size
  have q0 := C.c0
  have q1 := C.c1
  have q2 := C.c2
  by_cases k : b < h - 1
  · go_enter Try.func58, Try.ntmps58
    go_wp2
    go_ret
    exact ⟨rfl, ((Up.refl _).alloc _).alloc _⟩
  · have k' : c < m - 1 := by omega
    go_enter Try.func58, Try.ntmps58
    go_wp2
    go_ret
    exact ⟨rfl, ((Up.refl _).alloc _).alloc _⟩

theorem minuteLength_last {cs : Array Value} {h m s d : Int} {x : Nat → Int} (C : Cal cs h m s d x) (k : Nat) (b c q : Int) (w : World) (hk : k < 10) (h1 : 1 ≤ h) (h2 : h ≤ 24) (m1 : 1 ≤ m) (m2 : m ≤ 60) (s1 : 2 ≤ s) (s2 : s ≤ 60) (hb : ¬ b < h - 1) (hc : ¬ c < m - 1) :
    Calls Try.prog 58 #[.agg cs, rd k b c q] w fun e w' => e = .returned (.int .i64 (D.lastM s (x k))) ∧ Up w w' := by
  have hs := Lib.hid C.size
  have q0 := C.c0
  have q1 := C.c1
  have q2 := C.c2
  go_enter Try.func58, Try.ntmps58
  go_wp2_with fail
  refine (lastMinute_any C k _ hk s1 s2).mono ?_
  rintro e w1 ⟨rfl, u1⟩
  go_wp2
  go_ret
  exact ⟨rfl, (((Up.refl _).alloc _).alloc _).trans u1⟩

theorem sum3 (b : Nat) (p q r : Int) (c : Nat) (w : World) (hb : mblk w b = some (.cells #[.int .i64 p, .int .i64 q, .int .i64 r] 3 (0, 0))) :
    Calls Try.prog 40 #[.slice (some ⟨b, 0, none⟩) 3 c] w fun e w' => e = .returned (.int .i64 (wrap64 (D.tot [p, q, r]))) ∧ w = w' := by
  refine sum_any b 0 [p, q, r] c w (by simp) fun k hk => ?_
  rw [cellB hb]
  simp only [List.length_cons, List.length_nil] at hk
  have : k = 0 ∨ k = 1 ∨ k = 2 := by omega
  rcases this with rfl | rfl | rfl <;> rfl

theorem iw (n : Int) : IntKind.i64.wrap n = wrap64 n := by rw [IntKind.wrap_i64, wrap64]

/-- the minute of a reading, counted through, as 64 bits hold it -/
def D.cnt (h m a b c : Int) : Int := wrap64 (D.tot [wrap64 (a * (h * m)), wrap64 (b * m), c])

theorem counted_any {cs : Array Value} {h m s d : Int} {x : Nat → Int} (C : Cal cs h m s d x) (a b c q : Int) (w : World) (h1 : 1 ≤ h) (h2 : h ≤ 24) (m1 : 1 ≤ m) (m2 : m ≤ 60) :
    Calls Try.prog 47 #[.agg cs, rd a b c q] w fun e w' => e = .returned (.int .i64 (D.cnt h m a b c)) ∧ Up w w' := by
  have hs := Lib.hid C.size
  obtain ⟨a1, a2⟩ := D.mul_bd h m h1 h2 m1 m2
  go_enter Try.func47, Try.ntmps47
  go_wp2_with fail
  go_region_held3 (fun w' => mblk w' w.heap.size = some (.cells cs 62 (0, 0)) ∧ mblk w' (w.heap.size + 1) = some (.cells #[.int .i64 a, .int .i64 b, .int .i64 c, .int .i64 q] 34 (0, 0)) ∧ Up w w')
    (first
      | exact ⟨by rw [blk_drew, blk_past _ _ _ (by simp), blk_new _ _ _ rfl], by rw [blk_drew, blk_new _ _ _ (by simp)], (((Up.refl _).alloc _).alloc _).drew⟩
      | (go_split_ands; exact ⟨u1.blk (by assumption), u1.blk (by assumption), Up.trans (by assumption) u1⟩)
      | (go_split_ands; exact ⟨by assumption, by assumption, by assumption⟩)
      | (go_split_ands; exact ⟨blk_keep _ (by assumption), blk_keep _ (by assumption), Up.alloc (by assumption) _⟩))
    (first
      | (go_at_call 38; refine (mod_any C _ h1 h2 m1 m2).mono ?_; rintro e w1 ⟨rfl, u1⟩)
      | (go_at_call 61; refine (moh_any C _).mono ?_; rintro e w1 ⟨rfl, u1⟩)
      | (go_at_call 40; refine (sum3 _ _ _ _ _ _ (by exact blk_new _ _ _ rfl)).mono ?_; rintro e w1 ⟨rfl, rfl⟩))
  all_goals
    go_wp2
    go_ret
    go_split_ands
    exact ⟨by simp only [iw]; rfl, by assumption⟩

/-- are the parts of a reading as they come from dividing its minute? -/
def D.divd (h m a b c : Int) : Bool := (D.cnt h m a b c / (h * m) == a) && ((D.cnt h m a b c % (h * m) / m == b) && (D.cnt h m a b c % (h * m) % m == c))
theorem D.cnt_bd (h m a b c : Int) : -9223372036854775808 ≤ D.cnt h m a b c ∧ D.cnt h m a b c ≤ 9223372036854775807 := by
  unfold D.cnt wrap64; omega

theorem isDivided_core {cs : Array Value} {h m s d : Int} {x : Nat → Int} (C : Cal cs h m s d x) (a b c q A B Z : Int) (f1 f2 f3 : Bool) (w : World) (h1 : 1 ≤ h) (h2 : h ≤ 24) (m1 : 1 ≤ m) (m2 : m ≤ 60)
    (hA : Hid (D.cnt h m a b c / (h * m) = A)) (hB : Hid (D.cnt h m a b c % (h * m) / m = B)) (hZ : Hid (D.cnt h m a b c % (h * m) % m = Z)) (e1 : (A == a) = f1) (e2 : (B == b) = f2) (e3 : (Z == c) = f3) :
    Calls Try.prog 48 #[.agg cs, rd a b c q] w fun e w' => e = .returned (.bool (f1 && (f2 && f3))) ∧ Up w w' := by
  have hs := Lib.hid C.size
  obtain ⟨n1, n2⟩ := D.cnt_bd h m a b c
  have K : ∀ w, Calls Try.prog 43 #[.agg cs, .int .i64 (D.cnt h m a b c), .int .i64 q] w fun e w' => e = .returned (rd A B Z q) ∧ Up w w' := fun w =>
    (divided_any C _ q w h1 h2 m1 m2 n1 n2).mono fun e w' ⟨he, hw⟩ => ⟨by rw [he, hA.out, hB.out, hZ.out], hw⟩
  have HK := Lib.hid K
  clear K hA hB hZ
  cases f1 <;> cases f2 <;> cases f3
  all_goals
    go_enter Try.func48, Try.ntmps48
    go_wp2_with fail
    go_region_held3 (fun w' => mblk w' w.heap.size = some (.cells cs 62 (0, 0)) ∧ mblk w' (w.heap.size + 1) = some (.cells #[.int .i64 a, .int .i64 b, .int .i64 c, .int .i64 q] 34 (0, 0)) ∧ Up w w')
      (first
        | exact ⟨by rw [blk_drew, blk_past _ _ _ (by simp), blk_new _ _ _ rfl], by rw [blk_drew, blk_new _ _ _ (by simp)], (((Up.refl _).alloc _).alloc _).drew⟩
        | (go_split_ands; exact ⟨u1.blk (by assumption), u1.blk (by assumption), Up.trans (by assumption) u1⟩))
      (first
        | (go_at_call 47; refine (counted_any C _ _ _ _ _ h1 h2 m1 m2).mono ?_; rintro e w1 ⟨rfl, u1⟩)
        | (go_at_call 43; refine (HK.out _).mono ?_; rintro e w1 ⟨rfl, u1⟩))
    all_goals
      go_wp2
      go_ret
      go_split_ands
      exact ⟨rfl, by assumption⟩

theorem isDivided_any {cs : Array Value} {h m s d : Int} {x : Nat → Int} (C : Cal cs h m s d x) (a b c q : Int) (w : World) (h1 : 1 ≤ h) (h2 : h ≤ 24) (m1 : 1 ≤ m) (m2 : m ≤ 60) :
    Calls Try.prog 48 #[.agg cs, rd a b c q] w fun e w' => e = .returned (.bool (D.divd h m a b c)) ∧ Up w w' :=
  isDivided_core C a b c q _ _ _ _ _ _ w h1 h2 m1 m2 (Lib.hid rfl) (Lib.hid rfl) (Lib.hid rfl) rfl rfl rfl

end Go.Proofs.Ytghelfbigbdkkaa

/- The contracts of dial's isReading, lengths, total. -/
namespace Go.Proofs.Ytghelfbigbdkkaa
open Go.RowKit

/-- how many ticks the minute of a reading has -/
def D.mlen (h m s : Int) (x : Nat → Int) (a b c : Int) : Int := if b < h - 1 ∨ c < m - 1 then s else D.lastM s (x a.toNat)

theorem minuteLength_any {cs : Array Value} {h m s d : Int} {x : Nat → Int} (C : Cal cs h m s d x) (a b c q : Int) (w : World) (a1 : 0 ≤ a) (a2 : a < 10) (h1 : 1 ≤ h) (h2 : h ≤ 24) (m1 : 1 ≤ m) (m2 : m ≤ 60) (s1 : 2 ≤ s) (s2 : s ≤ 60) :
    Calls Try.prog 58 #[.agg cs, rd a b c q] w fun e w' => e = .returned (.int .i64 (D.mlen h m s x a b c)) ∧ Up w w' := by
  by_cases k : b < h - 1 ∨ c < m - 1
  · exact (minuteLength_in C a b c q w h1 h2 m1 m2 k).mono fun e w' ⟨he, hw⟩ => ⟨by rw [he, D.mlen, if_pos k], hw⟩
  · obtain ⟨n, rfl⟩ := Int.eq_ofNat_of_zero_le a1
    exact (minuteLength_last C n b c q w (by omega) h1 h2 m1 m2 s1 s2 (by omega) (by omega)).mono fun e w' ⟨he, hw⟩ => ⟨by rw [he, D.mlen, if_neg k]; rfl, hw⟩
theorem D.mlen_bd (h m s : Int) (x : Nat → Int) (a b c : Int) (s1 : 2 ≤ s) (s2 : s ≤ 60) : 1 ≤ D.mlen h m s x a b c ∧ D.mlen h m s x a b c ≤ 61 := by
  unfold D.mlen
  have := D.lastM_bd s (x a.toNat)
  split <;> omega

/-- is a reading one of the calendar? -/
def D.isRd (h m s d : Int) (x : Nat → Int) (a b c q : Int) : Bool := inB a 0 (d - 1) && (D.divd h m a b c && inB q 0 (D.mlen h m s x a b c - 1))

set_option maxHeartbeats 1000000 in
theorem isReading_any {cs : Array Value} {h m s d : Int} {x : Nat → Int} (C : Cal cs h m s d x) (a b c q : Int) (w : World) (h1 : 1 ≤ h) (h2 : h ≤ 24) (m1 : 1 ≤ m) (m2 : m ≤ 60) (s1 : 2 ≤ s) (s2 : s ≤ 60) (d1 : 1 ≤ d) (d2 : d ≤ 10) :
    Calls Try.prog 44 #[.agg cs, rd a b c q] w fun e w' => e = .returned (.bool (D.isRd h m s d x a b c q)) ∧ Up w w' := by
  have hs := Lib.hid C.size
  obtain ⟨n1, n2⟩ := D.mlen_bd h m s x a b c s1 s2
  have K1 := fun w => isDay_any C a w d1 d2
  have K2 := fun w => isDivided_any C a b c q w h1 h2 m1 m2
  have F : D.isRd h m s d x a b c q = (inB a 0 (d - 1) && (D.divd h m a b c && inB q 0 (D.mlen h m s x a b c - 1))) := rfl
  rw [F]
  clear F
  cases f1 : inB a 0 (d - 1)
  · simp only [f1] at K1
    have H1 := Lib.hid K1
    clear K1 K2 f1
    go_enter Try.func44, Try.ntmps44
    go_wp2_with fail
    refine wp_region_held_drew (S := fun w' => mblk w' w.heap.size = some (.cells cs 62 (0, 0)) ∧ mblk w' (w.heap.size + 1) = some (.cells #[.int .i64 a, .int .i64 b, .int .i64 c, .int .i64 q] 34 (0, 0)) ∧ Up w w') (by kernel_rfl) ⟨by rw [blk_drew, blk_past _ _ _ (by simp), blk_new _ _ _ rfl], by rw [blk_drew, blk_new _ _ _ (by simp)], (((Up.refl _).alloc _).alloc _).drew⟩ (fun hHeld => ?_)
    refine takeH (i := 0) (d := (some 5)) (v := ?v1) rfl rfl (by kernel_rfl) (by kernel_rfl) (by kernel_rfl) (fun _ _ _ h => h) (by rfl) ?hy1 (by assumption) ?_
    case hy1 => ((intro w hSw; (try dsimp only at hSw); (try go_split_ands); go_simp); try with_reducible rfl)
    simp only [Act.put, List.setIfInBounds_toArray, List.set_cons_zero, List.set_cons_succ]
    refine takeH (i := 1) (d := (some 6)) (v := ?v2) rfl rfl (by kernel_rfl) (by kernel_rfl) (by kernel_rfl) (fun _ _ _ h => h) (by rfl) ?hy2 (by assumption) ?_
    case hy2 => ((intro w hSw; (try dsimp only at hSw); (try go_split_ands); go_simp); try with_reducible rfl)
    simp only [Act.put, List.setIfInBounds_toArray, List.set_cons_zero, List.set_cons_succ]
    refine takeH (i := 2) (d := (some 7)) (v := ?v3) rfl rfl (by kernel_rfl) (by kernel_rfl) (by kernel_rfl) (fun _ _ _ h => h) (by rfl) ?hy3 (by assumption) ?_
    case hy3 => ((intro w hSw; (try dsimp only at hSw); (try go_split_ands); go_simp); try with_reducible rfl)
    simp only [Act.put, List.setIfInBounds_toArray, List.set_cons_zero, List.set_cons_succ]
    refine wpAnyH_ready (rs := [3]) (by kernel_rfl) (by simp) ?_
    refine AllReadyH.cons rfl (fun K hK => ?_) AllReadyH.nil
    go_simp
    refine (H1.out _).mono ?_
    rintro e w1 ⟨rfl, u1⟩
    go_wp2_with fail
    refine hK.out _ _ ⟨u1.blk hHeld.1, u1.blk hHeld.2.1, hHeld.2.2.trans u1⟩ (fun hHeld => ?_)
    clear hK K
    refine takeH (i := 4) (d := (some 9)) (v := ?v5) rfl rfl (by kernel_rfl) (by kernel_rfl) (by kernel_rfl) (fun _ _ _ h => h) (by rfl) ?hy5 (by assumption) ?_
    case hy5 => ((intro w hSw; (try dsimp only at hSw); (try go_split_ands); go_simp); try with_reducible rfl)
    simp only [Act.put, List.setIfInBounds_toArray, List.set_cons_zero, List.set_cons_succ]
    refine skipH (i := 5) (d := (some 10)) rfl rfl (by kernel_rfl) (by kernel_rfl) (by kernel_rfl) (fun _ _ _ h => h) (by rfl) (by assumption) ?_
    simp only [Act.put, List.setIfInBounds_toArray, List.set_cons_zero, List.set_cons_succ]
    refine skipH (i := 6) (d := (some 11)) rfl rfl (by kernel_rfl) (by kernel_rfl) (by kernel_rfl) (fun _ _ _ h => h) (by rfl) (by assumption) ?_
    simp only [Act.put, List.setIfInBounds_toArray, List.set_cons_zero, List.set_cons_succ]
    refine skipH (i := 7) (d := (some 12)) rfl rfl (by kernel_rfl) (by kernel_rfl) (by kernel_rfl) (fun _ _ _ h => h) (by rfl) (by assumption) ?_
    simp only [Act.put, List.setIfInBounds_toArray, List.set_cons_zero, List.set_cons_succ]
    refine takeH (i := 8) (d := (some 13)) (v := ?v9) rfl rfl (by kernel_rfl) (by kernel_rfl) (by kernel_rfl) (fun _ _ _ h => h) (by rfl) ?hy9 (by assumption) ?_
    case hy9 => ((intro w hSw; (try dsimp only at hSw); (try go_split_ands); go_simp); try with_reducible rfl)
    simp only [Act.put, List.setIfInBounds_toArray, List.set_cons_zero, List.set_cons_succ]
    refine takeH (i := 9) (d := (some 14)) (v := ?v10) rfl rfl (by kernel_rfl) (by kernel_rfl) (by kernel_rfl) (fun _ _ _ h => h) (by rfl) ?hy10 (by assumption) ?_
    case hy10 => ((intro w hSw; (try dsimp only at hSw); (try go_split_ands); go_simp); try with_reducible rfl)
    simp only [Act.put, List.setIfInBounds_toArray, List.set_cons_zero, List.set_cons_succ]
    refine skipH (i := 10) (d := (some 15)) rfl rfl (by kernel_rfl) (by kernel_rfl) (by kernel_rfl) (fun _ _ _ h => h) (by rfl) (by assumption) ?_
    simp only [Act.put, List.setIfInBounds_toArray, List.set_cons_zero, List.set_cons_succ]
    refine skipH (i := 11) (d := (some 16)) rfl rfl (by kernel_rfl) (by kernel_rfl) (by kernel_rfl) (fun _ _ _ h => h) (by rfl) (by assumption) ?_
    simp only [Act.put, List.setIfInBounds_toArray, List.set_cons_zero, List.set_cons_succ]
    refine skipH (i := 12) (d := (some 17)) rfl rfl (by kernel_rfl) (by kernel_rfl) (by kernel_rfl) (fun _ _ _ h => h) (by rfl) (by assumption) ?_
    simp only [Act.put, List.setIfInBounds_toArray, List.set_cons_zero, List.set_cons_succ]
    refine skipH (i := 13) (d := (some 18)) rfl rfl (by kernel_rfl) (by kernel_rfl) (by kernel_rfl) (fun _ _ _ h => h) (by rfl) (by assumption) ?_
    simp only [Act.put, List.setIfInBounds_toArray, List.set_cons_zero, List.set_cons_succ]
    refine skipH (i := 14) (d := (some 19)) rfl rfl (by kernel_rfl) (by kernel_rfl) (by kernel_rfl) (fun _ _ _ h => h) (by rfl) (by assumption) ?_
    simp only [Act.put, List.setIfInBounds_toArray, List.set_cons_zero, List.set_cons_succ]
    refine skipH (i := 15) (d := (some 20)) rfl rfl (by kernel_rfl) (by kernel_rfl) (by kernel_rfl) (fun _ _ _ h => h) (by rfl) (by assumption) ?_
    simp only [Act.put, List.setIfInBounds_toArray, List.set_cons_zero, List.set_cons_succ]
    refine skipH (i := 16) (d := (some 21)) rfl rfl (by kernel_rfl) (by kernel_rfl) (by kernel_rfl) (fun _ _ _ h => h) (by rfl) (by assumption) ?_
    simp only [Act.put, List.setIfInBounds_toArray, List.set_cons_zero, List.set_cons_succ]
    refine takeH (i := 17) (d := (some 22)) (v := ?v18) rfl rfl (by kernel_rfl) (by kernel_rfl) (by kernel_rfl) (fun _ _ _ h => h) (by rfl) ?hy18 (by assumption) ?_
    case hy18 => ((intro w hSw; (try dsimp only at hSw); (try go_split_ands); go_simp); try with_reducible rfl)
    simp only [Act.put, List.setIfInBounds_toArray, List.set_cons_zero, List.set_cons_succ]
    refine takeH (i := 18) (d := (some 4)) (v := ?v19) rfl rfl (by kernel_rfl) (by kernel_rfl) (by kernel_rfl) (fun _ _ _ h => h) (by rfl) ?hy19 (by assumption) ?_
    case hy19 => ((intro w hSw; (try dsimp only at hSw); (try go_split_ands); go_simp); try with_reducible rfl)
    simp only [Act.put, List.setIfInBounds_toArray, List.set_cons_zero, List.set_cons_succ]
    refine wpAnyH_done (by kernel_rfl) ?_ _
    go_wp2
    go_ret
    exact ⟨rfl, hHeld.2.2⟩
  · obtain ⟨a1, a2⟩ := inB_iff.1 f1
    have a2 : a < 10 := by omega
    simp only [f1] at K1
    have H1 := Lib.hid K1
    clear K1 f1
    cases f2 : D.divd h m a b c
    · simp only [f2] at K2
      have H2 := Lib.hid K2
      clear K2 f2
      go_enter Try.func44, Try.ntmps44
      go_wp2_with fail
      refine wp_region_held_drew (S := fun w' => mblk w' w.heap.size = some (.cells cs 62 (0, 0)) ∧ mblk w' (w.heap.size + 1) = some (.cells #[.int .i64 a, .int .i64 b, .int .i64 c, .int .i64 q] 34 (0, 0)) ∧ Up w w') (by kernel_rfl) ⟨by rw [blk_drew, blk_past _ _ _ (by simp), blk_new _ _ _ rfl], by rw [blk_drew, blk_new _ _ _ (by simp)], (((Up.refl _).alloc _).alloc _).drew⟩ (fun hHeld => ?_)
      refine takeH (i := 0) (d := (some 5)) (v := ?v20) rfl rfl (by kernel_rfl) (by kernel_rfl) (by kernel_rfl) (fun _ _ _ h => h) (by rfl) ?hy20 (by assumption) ?_
      case hy20 => ((intro w hSw; (try dsimp only at hSw); (try go_split_ands); go_simp); try with_reducible rfl)
      simp only [Act.put, List.setIfInBounds_toArray, List.set_cons_zero, List.set_cons_succ]
      refine takeH (i := 1) (d := (some 6)) (v := ?v21) rfl rfl (by kernel_rfl) (by kernel_rfl) (by kernel_rfl) (fun _ _ _ h => h) (by rfl) ?hy21 (by assumption) ?_
      case hy21 => ((intro w hSw; (try dsimp only at hSw); (try go_split_ands); go_simp); try with_reducible rfl)
      simp only [Act.put, List.setIfInBounds_toArray, List.set_cons_zero, List.set_cons_succ]
      refine takeH (i := 2) (d := (some 7)) (v := ?v22) rfl rfl (by kernel_rfl) (by kernel_rfl) (by kernel_rfl) (fun _ _ _ h => h) (by rfl) ?hy22 (by assumption) ?_
      case hy22 => ((intro w hSw; (try dsimp only at hSw); (try go_split_ands); go_simp); try with_reducible rfl)
      simp only [Act.put, List.setIfInBounds_toArray, List.set_cons_zero, List.set_cons_succ]
      refine wpAnyH_ready (rs := [3]) (by kernel_rfl) (by simp) ?_
      refine AllReadyH.cons rfl (fun K hK => ?_) AllReadyH.nil
      go_simp
      refine (H1.out _).mono ?_
      rintro e w1 ⟨rfl, u1⟩
      go_wp2_with fail
      refine hK.out _ _ ⟨u1.blk hHeld.1, u1.blk hHeld.2.1, hHeld.2.2.trans u1⟩ (fun hHeld => ?_)
      clear hK K
      refine takeH (i := 4) (d := (some 9)) (v := ?v24) rfl rfl (by kernel_rfl) (by kernel_rfl) (by kernel_rfl) (fun _ _ _ h => h) (by rfl) ?hy24 (by assumption) ?_
      case hy24 => ((intro w hSw; (try dsimp only at hSw); (try go_split_ands); go_simp); try with_reducible rfl)
      simp only [Act.put, List.setIfInBounds_toArray, List.set_cons_zero, List.set_cons_succ]
      refine takeH (i := 5) (d := (some 10)) (v := ?v25) rfl rfl (by kernel_rfl) (by kernel_rfl) (by kernel_rfl) (fun _ _ _ h => h) (by rfl) ?hy25 (by assumption) ?_
      case hy25 => ((intro w hSw; (try dsimp only at hSw); (try go_split_ands); go_simp); try with_reducible rfl)
      simp only [Act.put, List.setIfInBounds_toArray, List.set_cons_zero, List.set_cons_succ]
      refine takeH (i := 6) (d := (some 11)) (v := ?v26) rfl rfl (by kernel_rfl) (by kernel_rfl) (by kernel_rfl) (fun _ _ _ h => h) (by rfl) ?hy26 (by assumption) ?_
      case hy26 => ((intro w hSw; (try dsimp only at hSw); (try go_split_ands); go_simp); try with_reducible rfl)
      simp only [Act.put, List.setIfInBounds_toArray, List.set_cons_zero, List.set_cons_succ]
      refine wpAnyH_ready (rs := [7]) (by kernel_rfl) (by simp) ?_
      refine AllReadyH.cons rfl (fun K hK => ?_) AllReadyH.nil
      go_simp
      refine (H2.out _).mono ?_
      rintro e w1 ⟨rfl, u1⟩
      go_wp2_with fail
      refine hK.out _ _ ⟨u1.blk hHeld.1, u1.blk hHeld.2.1, hHeld.2.2.trans u1⟩ (fun hHeld => ?_)
      clear hK K
      refine takeH (i := 8) (d := (some 13)) (v := ?v28) rfl rfl (by kernel_rfl) (by kernel_rfl) (by kernel_rfl) (fun _ _ _ h => h) (by rfl) ?hy28 (by assumption) ?_
      case hy28 => ((intro w hSw; (try dsimp only at hSw); (try go_split_ands); go_simp); try with_reducible rfl)
      simp only [Act.put, List.setIfInBounds_toArray, List.set_cons_zero, List.set_cons_succ]
      refine takeH (i := 9) (d := (some 14)) (v := ?v29) rfl rfl (by kernel_rfl) (by kernel_rfl) (by kernel_rfl) (fun _ _ _ h => h) (by rfl) ?hy29 (by assumption) ?_
      case hy29 => ((intro w hSw; (try dsimp only at hSw); (try go_split_ands); go_simp); try with_reducible rfl)
      simp only [Act.put, List.setIfInBounds_toArray, List.set_cons_zero, List.set_cons_succ]
      refine skipH (i := 10) (d := (some 15)) rfl rfl (by kernel_rfl) (by kernel_rfl) (by kernel_rfl) (fun _ _ _ h => h) (by rfl) (by assumption) ?_
      simp only [Act.put, List.setIfInBounds_toArray, List.set_cons_zero, List.set_cons_succ]
      refine skipH (i := 11) (d := (some 16)) rfl rfl (by kernel_rfl) (by kernel_rfl) (by kernel_rfl) (fun _ _ _ h => h) (by rfl) (by assumption) ?_
      simp only [Act.put, List.setIfInBounds_toArray, List.set_cons_zero, List.set_cons_succ]
      refine skipH (i := 12) (d := (some 17)) rfl rfl (by kernel_rfl) (by kernel_rfl) (by kernel_rfl) (fun _ _ _ h => h) (by rfl) (by assumption) ?_
      simp only [Act.put, List.setIfInBounds_toArray, List.set_cons_zero, List.set_cons_succ]
      refine skipH (i := 13) (d := (some 18)) rfl rfl (by kernel_rfl) (by kernel_rfl) (by kernel_rfl) (fun _ _ _ h => h) (by rfl) (by assumption) ?_
      simp only [Act.put, List.setIfInBounds_toArray, List.set_cons_zero, List.set_cons_succ]
      refine skipH (i := 14) (d := (some 19)) rfl rfl (by kernel_rfl) (by kernel_rfl) (by kernel_rfl) (fun _ _ _ h => h) (by rfl) (by assumption) ?_
      simp only [Act.put, List.setIfInBounds_toArray, List.set_cons_zero, List.set_cons_succ]
      refine skipH (i := 15) (d := (some 20)) rfl rfl (by kernel_rfl) (by kernel_rfl) (by kernel_rfl) (fun _ _ _ h => h) (by rfl) (by assumption) ?_
      simp only [Act.put, List.setIfInBounds_toArray, List.set_cons_zero, List.set_cons_succ]
      refine skipH (i := 16) (d := (some 21)) rfl rfl (by kernel_rfl) (by kernel_rfl) (by kernel_rfl) (fun _ _ _ h => h) (by rfl) (by assumption) ?_
      simp only [Act.put, List.setIfInBounds_toArray, List.set_cons_zero, List.set_cons_succ]
      refine takeH (i := 17) (d := (some 22)) (v := ?v37) rfl rfl (by kernel_rfl) (by kernel_rfl) (by kernel_rfl) (fun _ _ _ h => h) (by rfl) ?hy37 (by assumption) ?_
      case hy37 => ((intro w hSw; (try dsimp only at hSw); (try go_split_ands); go_simp); try with_reducible rfl)
      simp only [Act.put, List.setIfInBounds_toArray, List.set_cons_zero, List.set_cons_succ]
      refine takeH (i := 18) (d := (some 4)) (v := ?v38) rfl rfl (by kernel_rfl) (by kernel_rfl) (by kernel_rfl) (fun _ _ _ h => h) (by rfl) ?hy38 (by assumption) ?_
      case hy38 => ((intro w hSw; (try dsimp only at hSw); (try go_split_ands); go_simp); try with_reducible rfl)
      simp only [Act.put, List.setIfInBounds_toArray, List.set_cons_zero, List.set_cons_succ]
      refine wpAnyH_done (by kernel_rfl) ?_ _
      go_wp2
      go_ret
      exact ⟨rfl, hHeld.2.2⟩
    · simp only [f2] at K2
      have H2 := Lib.hid K2
      clear K2 f2
      go_enter Try.func44, Try.ntmps44
      go_wp2_with fail
      refine wp_region_held_drew (S := fun w' => mblk w' w.heap.size = some (.cells cs 62 (0, 0)) ∧ mblk w' (w.heap.size + 1) = some (.cells #[.int .i64 a, .int .i64 b, .int .i64 c, .int .i64 q] 34 (0, 0)) ∧ Up w w') (by kernel_rfl) ⟨by rw [blk_drew, blk_past _ _ _ (by simp), blk_new _ _ _ rfl], by rw [blk_drew, blk_new _ _ _ (by simp)], (((Up.refl _).alloc _).alloc _).drew⟩ (fun hHeld => ?_)
      refine takeH (i := 0) (d := (some 5)) (v := ?v39) rfl rfl (by kernel_rfl) (by kernel_rfl) (by kernel_rfl) (fun _ _ _ h => h) (by rfl) ?hy39 (by assumption) ?_
      case hy39 => ((intro w hSw; (try dsimp only at hSw); (try go_split_ands); go_simp); try with_reducible rfl)
      simp only [Act.put, List.setIfInBounds_toArray, List.set_cons_zero, List.set_cons_succ]
      refine takeH (i := 1) (d := (some 6)) (v := ?v40) rfl rfl (by kernel_rfl) (by kernel_rfl) (by kernel_rfl) (fun _ _ _ h => h) (by rfl) ?hy40 (by assumption) ?_
      case hy40 => ((intro w hSw; (try dsimp only at hSw); (try go_split_ands); go_simp); try with_reducible rfl)
      simp only [Act.put, List.setIfInBounds_toArray, List.set_cons_zero, List.set_cons_succ]
      refine takeH (i := 2) (d := (some 7)) (v := ?v41) rfl rfl (by kernel_rfl) (by kernel_rfl) (by kernel_rfl) (fun _ _ _ h => h) (by rfl) ?hy41 (by assumption) ?_
      case hy41 => ((intro w hSw; (try dsimp only at hSw); (try go_split_ands); go_simp); try with_reducible rfl)
      simp only [Act.put, List.setIfInBounds_toArray, List.set_cons_zero, List.set_cons_succ]
      refine wpAnyH_ready (rs := [3]) (by kernel_rfl) (by simp) ?_
      refine AllReadyH.cons rfl (fun K hK => ?_) AllReadyH.nil
      go_simp
      refine (H1.out _).mono ?_
      rintro e w1 ⟨rfl, u1⟩
      go_wp2_with fail
      refine hK.out _ _ ⟨u1.blk hHeld.1, u1.blk hHeld.2.1, hHeld.2.2.trans u1⟩ (fun hHeld => ?_)
      clear hK K
      refine takeH (i := 4) (d := (some 9)) (v := ?v43) rfl rfl (by kernel_rfl) (by kernel_rfl) (by kernel_rfl) (fun _ _ _ h => h) (by rfl) ?hy43 (by assumption) ?_
      case hy43 => ((intro w hSw; (try dsimp only at hSw); (try go_split_ands); go_simp); try with_reducible rfl)
      simp only [Act.put, List.setIfInBounds_toArray, List.set_cons_zero, List.set_cons_succ]
      refine takeH (i := 5) (d := (some 10)) (v := ?v44) rfl rfl (by kernel_rfl) (by kernel_rfl) (by kernel_rfl) (fun _ _ _ h => h) (by rfl) ?hy44 (by assumption) ?_
      case hy44 => ((intro w hSw; (try dsimp only at hSw); (try go_split_ands); go_simp); try with_reducible rfl)
      simp only [Act.put, List.setIfInBounds_toArray, List.set_cons_zero, List.set_cons_succ]
      refine takeH (i := 6) (d := (some 11)) (v := ?v45) rfl rfl (by kernel_rfl) (by kernel_rfl) (by kernel_rfl) (fun _ _ _ h => h) (by rfl) ?hy45 (by assumption) ?_
      case hy45 => ((intro w hSw; (try dsimp only at hSw); (try go_split_ands); go_simp); try with_reducible rfl)
      simp only [Act.put, List.setIfInBounds_toArray, List.set_cons_zero, List.set_cons_succ]
      refine wpAnyH_ready (rs := [7]) (by kernel_rfl) (by simp) ?_
      refine AllReadyH.cons rfl (fun K hK => ?_) AllReadyH.nil
      go_simp
      refine (H2.out _).mono ?_
      rintro e w1 ⟨rfl, u1⟩
      go_wp2_with fail
      refine hK.out _ _ ⟨u1.blk hHeld.1, u1.blk hHeld.2.1, hHeld.2.2.trans u1⟩ (fun hHeld => ?_)
      clear hK K
      refine takeH (i := 8) (d := (some 13)) (v := ?v47) rfl rfl (by kernel_rfl) (by kernel_rfl) (by kernel_rfl) (fun _ _ _ h => h) (by rfl) ?hy47 (by assumption) ?_
      case hy47 => ((intro w hSw; (try dsimp only at hSw); (try go_split_ands); go_simp); try with_reducible rfl)
      simp only [Act.put, List.setIfInBounds_toArray, List.set_cons_zero, List.set_cons_succ]
      refine takeH (i := 9) (d := (some 14)) (v := ?v48) rfl rfl (by kernel_rfl) (by kernel_rfl) (by kernel_rfl) (fun _ _ _ h => h) (by rfl) ?hy48 (by assumption) ?_
      case hy48 => ((intro w hSw; (try dsimp only at hSw); (try go_split_ands); go_simp); try with_reducible rfl)
      simp only [Act.put, List.setIfInBounds_toArray, List.set_cons_zero, List.set_cons_succ]
      refine takeH (i := 10) (d := (some 15)) (v := ?v49) rfl rfl (by kernel_rfl) (by kernel_rfl) (by kernel_rfl) (fun _ _ _ h => h) (by rfl) ?hy49 (by assumption) ?_
      case hy49 => ((intro w hSw; (try dsimp only at hSw); (try go_split_ands); go_simp); try with_reducible rfl)
      simp only [Act.put, List.setIfInBounds_toArray, List.set_cons_zero, List.set_cons_succ]
      refine takeH (i := 11) (d := (some 16)) (v := ?v50) rfl rfl (by kernel_rfl) (by kernel_rfl) (by kernel_rfl) (fun _ _ _ h => h) (by rfl) ?hy50 (by assumption) ?_
      case hy50 => ((intro w hSw; (try dsimp only at hSw); (try go_split_ands); go_simp); try with_reducible rfl)
      simp only [Act.put, List.setIfInBounds_toArray, List.set_cons_zero, List.set_cons_succ]
      refine takeH (i := 12) (d := (some 17)) (v := ?v51) rfl rfl (by kernel_rfl) (by kernel_rfl) (by kernel_rfl) (fun _ _ _ h => h) (by rfl) ?hy51 (by assumption) ?_
      case hy51 => ((intro w hSw; (try dsimp only at hSw); (try go_split_ands); go_simp); try with_reducible rfl)
      simp only [Act.put, List.setIfInBounds_toArray, List.set_cons_zero, List.set_cons_succ]
      refine takeH (i := 13) (d := (some 18)) (v := ?v52) rfl rfl (by kernel_rfl) (by kernel_rfl) (by kernel_rfl) (fun _ _ _ h => h) (by rfl) ?hy52 (by assumption) ?_
      case hy52 => ((intro w hSw; (try dsimp only at hSw); (try go_split_ands); go_simp); try with_reducible rfl)
      simp only [Act.put, List.setIfInBounds_toArray, List.set_cons_zero, List.set_cons_succ]
      refine wpAnyH_ready (rs := [14]) (by kernel_rfl) (by simp) ?_
      refine AllReadyH.cons rfl (fun K hK => ?_) AllReadyH.nil
      go_simp
      refine (minuteLength_any C _ _ _ _ _ a1 a2 h1 h2 m1 m2 s1 s2).mono ?_
      rintro e w1 ⟨rfl, u1⟩
      go_wp2_with fail
      refine hK.out _ _ ⟨u1.blk hHeld.1, u1.blk hHeld.2.1, hHeld.2.2.trans u1⟩ (fun hHeld => ?_)
      clear hK K
      refine takeH (i := 15) (d := (some 20)) (v := ?v54) rfl rfl (by kernel_rfl) (by kernel_rfl) (by kernel_rfl) (fun _ _ _ h => h) (by rfl) ?hy54 (by assumption) ?_
      case hy54 => ((intro w hSw; (try dsimp only at hSw); (try go_split_ands); go_simp); try with_reducible rfl)
      simp only [Act.put, List.setIfInBounds_toArray, List.set_cons_zero, List.set_cons_succ]
      refine wpAnyH_ready (rs := [16]) (by kernel_rfl) (by simp) ?_
      refine AllReadyH.cons rfl (fun K hK => ?_) AllReadyH.nil
      go_simp
      refine (within_any _ _ _ _).mono ?_
      rintro e w1 ⟨rfl, rfl⟩
      go_wp2_with fail
      refine hK.out _ _ hHeld (fun hHeld => ?_)
      clear hK K
      refine takeH (i := 17) (d := (some 22)) (v := ?v56) rfl rfl (by kernel_rfl) (by kernel_rfl) (by kernel_rfl) (fun _ _ _ h => h) (by rfl) ?hy56 (by assumption) ?_
      case hy56 => ((intro w hSw; (try dsimp only at hSw); (try go_split_ands); go_simp); try with_reducible rfl)
      simp only [Act.put, List.setIfInBounds_toArray, List.set_cons_zero, List.set_cons_succ]
      refine takeH (i := 18) (d := (some 4)) (v := ?v57) rfl rfl (by kernel_rfl) (by kernel_rfl) (by kernel_rfl) (fun _ _ _ h => h) (by rfl) ?hy57 (by assumption) ?_
      case hy57 => ((intro w hSw; (try dsimp only at hSw); (try go_split_ands); go_simp); try with_reducible rfl)
      simp only [Act.put, List.setIfInBounds_toArray, List.set_cons_zero, List.set_cons_succ]
      refine wpAnyH_done (by kernel_rfl) ?_ _
      go_wp2
      go_ret
      refine ⟨?_, hHeld.2.2⟩
      show Ending.returned (.bool (inB q 0 (IntKind.i64.wrap (D.mlen h m s x a b c - 1)))) = .returned (.bool (inB q 0 (D.mlen h m s x a b c - 1)))
      rw [IntWalk.i64_in _ (by omega)]

end Go.Proofs.Ytghelfbigbdkkaa
