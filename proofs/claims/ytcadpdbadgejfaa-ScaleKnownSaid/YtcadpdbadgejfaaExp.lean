import Derived.Test.YtcadpdbadgejfaaSrc
/- The contracts of Reach, IsPlan, newCourse and Fewest. -/
namespace Go.Proofs.Ytcadpdbadgejfaa
open Go.RowKit

section
variable {f s j dl dh : Int}
set_option maxRecDepth 100000 in
theorem Reach_no (w : World) (h : S.ok f s j dl dh = false) (t : Int) : Calls Try.prog 22 #[RV f s j dl dh, .int .i64 t] w fun e w' => e = .returned (.tuple #[SpV 0 0, .int .i64 40]) ∧ Up w w' := by
  have U0 := ((Up.refl w).alloc (.cells #[.int .i64 f, .int .i64 s, .int .i64 j, .int .i64 dl, .int .i64 dh] 25)).alloc (.cells #[.int .i64 0, .int .i64 0] 23)
  have k0 := blk_new (w.alloc (.cells #[.int .i64 f, .int .i64 s, .int .i64 j, .int .i64 dl, .int .i64 dh] 25)) (.cells #[.int .i64 0, .int .i64 0] 23) (w.heap.size + 1) (by simp)
  have HN := Lib.hid (fun w => newRule_no w h)
  clear h
  go_enter Try.func22, Try.ntmps22
  go_wp2_with fail
  refine (HN.out _).mono ?_
  rintro e w1 ⟨rfl, u1⟩
  have kk := u1.blk k0
  have z0 := frozB kk
  have U1 := U0.trans u1
  have n0 : w.heap.size ≤ w.heap.size + 1 := by omega
  have UE := ((U1.set (p := ⟨w.heap.size + 1, 0, none⟩) n0 (.int .i64 0)).set (p := ⟨w.heap.size + 1, 1, none⟩) n0 (.int .i64 0)).alloc (.cells #[.int .i64 0, .int .i64 0, .int .i64 0, .int .i64 0, .int .i64 0] 79)
  have C := Lib.hid (cellB (blk_keep (.cells #[.int .i64 0, .int .i64 0, .int .i64 0, .int .i64 0, .int .i64 0] 79) (blk_put (blk_put kk 0 (.int .i64 0)) 1 (.int .i64 0))))
  have lt := blk_lt kk
  clear n0 u1 U0 k0 HN U1
  go_wp2_with fail
  have c := C.out
  exact bodyPost_ret (v := .tuple #[SpV 0 0, .int .i64 40]) (by simp [results, Try.results22, go_sem, c]) rfl ⟨rfl, UE⟩
set_option maxRecDepth 100000 in
theorem Reach_ask (w : World) (h : S.ok f s j dl dh = true) (t : Int) (ht : ¬ (0 ≤ t ∧ t ≤ 200)) : Calls Try.prog 22 #[RV f s j dl dh, .int .i64 t] w fun e w' => e = .returned (.tuple #[SpV 0 0, .int .i64 41]) ∧ Up w w' := by
  have U0 := ((Up.refl w).alloc (.cells #[.int .i64 f, .int .i64 s, .int .i64 j, .int .i64 dl, .int .i64 dh] 25)).alloc (.cells #[.int .i64 0, .int .i64 0] 23)
  have k0 := blk_new (w.alloc (.cells #[.int .i64 f, .int .i64 s, .int .i64 j, .int .i64 dl, .int .i64 dh] 25)) (.cells #[.int .i64 0, .int .i64 0] 23) (w.heap.size + 1) (by simp)
  have HN := Lib.hid (fun w => newRule_yes w h)
  clear h
  go_enter Try.func22, Try.ntmps22
  go_wp2_with fail
  refine (HN.out _).mono ?_
  rintro e w1 ⟨rfl, u1⟩
  have kk := u1.blk k0
  have z0 := frozB kk
  have U1 := U0.trans u1
  have n0 : w.heap.size ≤ w.heap.size + 1 := by omega
  have UE := ((U1.set (p := ⟨w.heap.size + 1, 0, none⟩) n0 (.int .i64 0)).set (p := ⟨w.heap.size + 1, 1, none⟩) n0 (.int .i64 0)).alloc (.cells #[.int .i64 f, .int .i64 s, .int .i64 j, .int .i64 dl, .int .i64 dh] 79)
  have C := Lib.hid (cellB (blk_keep (.cells #[.int .i64 f, .int .i64 s, .int .i64 j, .int .i64 dl, .int .i64 dh] 79) (blk_put (blk_put kk 0 (.int .i64 0)) 1 (.int .i64 0))))
  have lt := blk_lt kk
  have HW := Lib.hid (fun w => within_no t 0 200 w ht)
  clear n0 u1 U0 k0 HN U1 ht
  go_wp2_with fail
  refine (HW.out _).mono ?_
  rintro e w2 ⟨rfl, rfl⟩
  go_wp2_with fail
  have c := C.out
  exact bodyPost_ret (v := .tuple #[SpV 0 0, .int .i64 41]) (by simp [results, Try.results22, go_sem, c]) rfl ⟨rfl, UE⟩
set_option maxRecDepth 100000 in
theorem Reach_yes (w : World) (h : S.ok f s j dl dh = true) (T : Nat) (hT : T ≤ 200) : Calls Try.prog 22 #[RV f s j dl dh, .int .i64 T] w fun e w' => e = .returned (.tuple #[SpV (-(S.most s j T)) (S.most f j T), .int .i64 0]) ∧ Up w w' := by
  have U0 := ((Up.refl w).alloc (.cells #[.int .i64 f, .int .i64 s, .int .i64 j, .int .i64 dl, .int .i64 dh] 25)).alloc (.cells #[.int .i64 0, .int .i64 0] 23)
  have k0 := blk_new (w.alloc (.cells #[.int .i64 f, .int .i64 s, .int .i64 j, .int .i64 dl, .int .i64 dh] 25)) (.cells #[.int .i64 0, .int .i64 0] 23) (w.heap.size + 1) (by simp)
  have HN := Lib.hid (fun w => newRule_yes w h)
  have HK := Lib.hid (fun w => newKnown_any h w)
  have HR := Lib.hid (fun v w (K : S.Know w v f s j) => reach_any h hT K)
  have HW := Lib.hid (fun w => within_yes (T : Int) 0 200 w (by omega) (by omega))
  generalize S.most s j T = a at *
  generalize S.most f j T = b at *
  clear h
  go_enter Try.func22, Try.ntmps22
  go_wp2_with fail
  refine (HN.out _).mono ?_
  rintro e w1 ⟨rfl, u1⟩
  have k1 := blk_keep (.cells #[.int .i64 f, .int .i64 s, .int .i64 j, .int .i64 dl, .int .i64 dh] 79) (u1.blk k0)
  have U1 := (U0.trans u1).alloc (.cells #[.int .i64 f, .int .i64 s, .int .i64 j, .int .i64 dl, .int .i64 dh] 79)
  clear u1 U0 k0 HN
  go_wp2_with fail
  refine (HW.out _).mono ?_
  rintro e w2 ⟨rfl, rfl⟩
  go_wp2_with fail
  refine (HK.out _).mono ?_
  rintro e w3 ⟨v, rfl, u3, K3⟩
  obtain ⟨m, _, _, rfl, _, _⟩ := K3.is
  have k3 := u3.blk k1
  have U3 := U1.trans u3
  clear u3 k1 U1 HK HW
  go_wp2_with fail
  refine (HR.out _ _ K3).mono ?_
  rintro e w4 ⟨rfl, u4⟩
  have k4 := u4.blk k3
  have z4 := frozB k4
  have U4 := U3.trans u4
  have n0 : w.heap.size ≤ w.heap.size + 1 := by omega
  have UE := (U4.set (p := ⟨w.heap.size + 1, 0, none⟩) n0 (.int .i64 (-a))).set (p := ⟨w.heap.size + 1, 1, none⟩) n0 (.int .i64 b)
  have C := Lib.hid (cellB (blk_put (blk_put k4 0 (.int .i64 (-a))) 1 (.int .i64 b)))
  clear n0 u4 k3 U3 HR K3
  go_wp2_with fail
  have c := C.out
  exact bodyPost_ret (v := .tuple #[SpV (-a) b, .int .i64 0]) (by simp [results, Try.results22, go_sem, c]) rfl ⟨rfl, UE⟩

set_option maxRecDepth 100000 in
theorem IsPlan_no {v : Value} {w : World} (h : S.ok f s j dl dh = false) (off : Int) : Calls Try.prog 16 #[RV f s j dl dh, .int .i64 off, v] w fun e w' => e = .returned (.tuple #[.bool false, .int .i64 40]) ∧ Up w w' := by
  have U0 := (Up.refl w).alloc (.cells #[.int .i64 f, .int .i64 s, .int .i64 j, .int .i64 dl, .int .i64 dh] 25)
  have HN := Lib.hid (fun w => newRule_no w h)
  clear h
  go_enter Try.func16, Try.ntmps16
  go_wp2_with fail
  refine (HN.out _).mono ?_
  rintro e w1 ⟨rfl, u1⟩
  go_wp2
  go_ret2
  exact ⟨rfl, (U0.trans u1).alloc _⟩
set_option maxRecDepth 100000 in
theorem IsPlan_ask {v : Value} {w : World} (h : S.ok f s j dl dh = true) (off : Int) (ho : ¬ (-20000 ≤ off ∧ off ≤ 20000)) : Calls Try.prog 16 #[RV f s j dl dh, .int .i64 off, v] w fun e w' => e = .returned (.tuple #[.bool false, .int .i64 41]) ∧ Up w w' := by
  have U0 := (Up.refl w).alloc (.cells #[.int .i64 f, .int .i64 s, .int .i64 j, .int .i64 dl, .int .i64 dh] 25)
  have HN := Lib.hid (fun w => newRule_yes w h)
  have HO := Lib.hid (fun w => show Calls Try.prog 55 #[.int .i64 off] w fun e w' => e = .returned (.bool false) ∧ w = w' by rw [← inB_no ho]; exact isOffset_any off w)
  clear h ho
  go_enter Try.func16, Try.ntmps16
  go_wp2_with fail
  refine (HN.out _).mono ?_
  rintro e w1 ⟨rfl, u1⟩
  go_wp2_with fail
  refine (HO.out _).mono ?_
  rintro e w2 ⟨rfl, rfl⟩
  go_wp2
  go_ret2
  exact ⟨rfl, (U0.trans u1).alloc _⟩
set_option maxRecDepth 100000 in
theorem IsPlan_yes {v : Value} {xs : List Int} {w : World} (h : S.ok f s j dl dh = true) (off : Int) (o1 : -20000 ≤ off) (o2 : off ≤ 20000) (I : Ints w v xs) : Calls Try.prog 16 #[RV f s j dl dh, .int .i64 off, v] w fun e w' => e = .returned (.tuple #[.bool (S.plans f s j off xs), .int .i64 0]) ∧ Up w w' := by
  have U0 := (Up.refl w).alloc (.cells #[.int .i64 f, .int .i64 s, .int .i64 j, .int .i64 dl, .int .i64 dh] 25)
  have HN := Lib.hid (fun w => newRule_yes w h)
  have HO := Lib.hid (fun w => show Calls Try.prog 55 #[.int .i64 off] w fun e w' => e = .returned (.bool true) ∧ w = w' by rw [← inB_yes o1 o2]; exact isOffset_any off w)
  have HP := Lib.hid (fun w' (u : Up w w') => isPlan_any h off o1 o2 (I.up u))
  generalize S.plans f s j off xs = q at *
  clear h I
  go_enter Try.func16, Try.ntmps16
  go_wp2_with fail
  refine (HN.out _).mono ?_
  rintro e w1 ⟨rfl, u1⟩
  have U1 := (U0.trans u1).alloc (.cells #[.int .i64 f, .int .i64 s, .int .i64 j, .int .i64 dl, .int .i64 dh] 79)
  clear u1 U0 HN
  go_wp2_with fail
  refine (HO.out _).mono ?_
  rintro e w2 ⟨rfl, rfl⟩
  go_wp2_with fail
  refine (HP.out _ U1).mono ?_
  rintro e w3 ⟨rfl, u3⟩
  go_wp2
  go_ret2
  exact ⟨rfl, U1.trans u3⟩
end

end Go.Proofs.Ytcadpdbadgejfaa
