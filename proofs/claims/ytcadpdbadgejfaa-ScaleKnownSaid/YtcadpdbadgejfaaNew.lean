import Derived.Test.YtcadpdbadgejfaaExp
import Derived.Test.YtcadpdbadgejfaaPla
/- The contracts of newCourse, Fewest and Plan. -/
namespace Go.Proofs.Ytcadpdbadgejfaa
open Go.RowKit

/-- what is known of a rule's ticks stays so when a cell of another kind is set -/
theorem S.Know.put {w : World} {v : Value} {f s j : Int} (K : S.Know w v f s j) {b : Nat} {cs : Array Value} {t : TypeId} {fr : Nat × Nat} (k : mblk w b = some (.cells cs t fr)) (i : Nat) (u : Value) : S.Know (w.setCell ⟨b, i, none⟩ u) v f s j := by
  obtain ⟨m, n, M, rfl, ho, hM⟩ := K.is
  refine ⟨m, n, M, rfl, ho.kept (row := some b) ⟨rfl, rfl, rfl, (KeepsWalks.setCell w _ u).size, fun k _ hk => Below.heap_setCell _ _ _ k (fun e => hk (by rw [e]))⟩ (fun e => ?_), hM⟩
  injection e with e
  obtain ⟨es, ck, h, _⟩ := ho
  subst e
  unfold mblk at k
  rw [h] at k
  cases k

section
variable {f s j dl dh : Int}
abbrev CZ : Value := .agg #[.map none, .int .i64 0, .int .i64 0]
set_option maxRecDepth 100000 in
theorem newCourse_no (w : World) (h : S.ok f s j dl dh = false) (off : Int) : Calls Try.prog 60 #[RV f s j dl dh, .int .i64 off] w fun e w' => e = .returned (.tuple #[CZ, .int .i64 40]) ∧ Up w w' := by
  have U0 := ((Up.refl w).alloc (.cells #[.int .i64 f, .int .i64 s, .int .i64 j, .int .i64 dl, .int .i64 dh] 25)).alloc (.cells #[.map none, .int .i64 0, .int .i64 0] 89)
  have k0 := blk_new (w.alloc (.cells #[.int .i64 f, .int .i64 s, .int .i64 j, .int .i64 dl, .int .i64 dh] 25)) (.cells #[.map none, .int .i64 0, .int .i64 0] 89) (w.heap.size + 1) (by simp)
  have HN := Lib.hid (fun w => newRule_no w h)
  clear h
  go_enter Try.func60, Try.ntmps60
  go_wp2_with fail
  refine (HN.out _).mono ?_
  rintro e w1 ⟨rfl, u1⟩
  have k1 := blk_keep (.cells #[.int .i64 0, .int .i64 0, .int .i64 0, .int .i64 0, .int .i64 0] 79) (u1.blk k0)
  have z0 := frozB (u1.blk k0)
  have c0 := cellB (u1.blk k0)
  have z1 := frozB k1
  have lt := blk_lt (u1.blk k0)
  have n0 : w.heap.size ≤ w.heap.size + 1 := by omega
  have U1 := ((((U0.trans u1).set (p := ⟨w.heap.size + 1, 0, none⟩) n0 (.map none)).set (p := ⟨w.heap.size + 1, 1, none⟩) n0 (.int .i64 0)).set (p := ⟨w.heap.size + 1, 2, none⟩) n0 (.int .i64 0)).alloc (.cells #[.int .i64 0, .int .i64 0, .int .i64 0, .int .i64 0, .int .i64 0] 79)
  have C := Lib.hid (cellB (blk_keep (.cells #[.int .i64 0, .int .i64 0, .int .i64 0, .int .i64 0, .int .i64 0] 79) (blk_put (blk_put (blk_put (u1.blk k0) 0 (.map none)) 1 (.int .i64 0)) 2 (.int .i64 0))))
  clear u1 U0 HN k0 k1 n0
  go_wp2_with fail
  have c := C.out
  exact bodyPost_ret (v := .tuple #[CZ, .int .i64 40]) (by simp [results, Try.results60, go_sem, c]) rfl ⟨rfl, U1⟩
set_option maxRecDepth 100000 in
theorem newCourse_ask (w : World) (h : S.ok f s j dl dh = true) (off : Int) (ho : ¬ (-20000 ≤ off ∧ off ≤ 20000)) : Calls Try.prog 60 #[RV f s j dl dh, .int .i64 off] w fun e w' => e = .returned (.tuple #[CZ, .int .i64 41]) ∧ Up w w' := by
  have U0 := ((Up.refl w).alloc (.cells #[.int .i64 f, .int .i64 s, .int .i64 j, .int .i64 dl, .int .i64 dh] 25)).alloc (.cells #[.map none, .int .i64 0, .int .i64 0] 89)
  have k0 := blk_new (w.alloc (.cells #[.int .i64 f, .int .i64 s, .int .i64 j, .int .i64 dl, .int .i64 dh] 25)) (.cells #[.map none, .int .i64 0, .int .i64 0] 89) (w.heap.size + 1) (by simp)
  have HN := Lib.hid (fun w => newRule_yes w h)
  have HO := Lib.hid (fun w => show Calls Try.prog 55 #[.int .i64 off] w fun e w' => e = .returned (.bool false) ∧ w = w' by rw [← inB_no ho]; exact isOffset_any off w)
  clear h ho
  go_enter Try.func60, Try.ntmps60
  go_wp2_with fail
  refine (HN.out _).mono ?_
  rintro e w1 ⟨rfl, u1⟩
  have k1 := blk_keep (.cells #[.int .i64 f, .int .i64 s, .int .i64 j, .int .i64 dl, .int .i64 dh] 79) (u1.blk k0)
  have z0 := frozB (u1.blk k0)
  have c0 := cellB (u1.blk k0)
  have z1 := frozB k1
  have lt := blk_lt (u1.blk k0)
  have n0 : w.heap.size ≤ w.heap.size + 1 := by omega
  have U1 := ((((U0.trans u1).set (p := ⟨w.heap.size + 1, 0, none⟩) n0 (.map none)).set (p := ⟨w.heap.size + 1, 1, none⟩) n0 (.int .i64 0)).set (p := ⟨w.heap.size + 1, 2, none⟩) n0 (.int .i64 0)).alloc (.cells #[.int .i64 f, .int .i64 s, .int .i64 j, .int .i64 dl, .int .i64 dh] 79)
  have C := Lib.hid (cellB (blk_keep (.cells #[.int .i64 f, .int .i64 s, .int .i64 j, .int .i64 dl, .int .i64 dh] 79) (blk_put (blk_put (blk_put (u1.blk k0) 0 (.map none)) 1 (.int .i64 0)) 2 (.int .i64 0))))
  clear u1 U0 HN k0 k1 n0
  go_wp2_with fail
  refine (HO.out _).mono ?_
  rintro e w2 ⟨rfl, rfl⟩
  go_wp2_with fail
  have c := C.out
  exact bodyPost_ret (v := .tuple #[CZ, .int .i64 41]) (by simp [results, Try.results60, go_sem, c]) rfl ⟨rfl, U1⟩
set_option maxRecDepth 100000 in
theorem newCourse_yes (w : World) (h : S.ok f s j dl dh = true) (off : Int) (o1 : -20000 ≤ off) (o2 : off ≤ 20000) : Calls Try.prog 60 #[RV f s j dl dh, .int .i64 off] w fun e w' => ∃ m, e = .returned (.tuple #[CV m (S.against off) (max off (-off)), .int .i64 0]) ∧ Up w w' ∧ S.Know w' (.map (some m)) f s j := by
  have U0 := ((Up.refl w).alloc (.cells #[.int .i64 f, .int .i64 s, .int .i64 j, .int .i64 dl, .int .i64 dh] 25)).alloc (.cells #[.map none, .int .i64 0, .int .i64 0] 89)
  have k0 := blk_new (w.alloc (.cells #[.int .i64 f, .int .i64 s, .int .i64 j, .int .i64 dl, .int .i64 dh] 25)) (.cells #[.map none, .int .i64 0, .int .i64 0] 89) (w.heap.size + 1) (by simp)
  have HN := Lib.hid (fun w => newRule_yes w h)
  have HK := Lib.hid (fun w => newKnown_any h w)
  have HO := Lib.hid (fun w => show Calls Try.prog 55 #[.int .i64 off] w fun e w' => e = .returned (.bool true) ∧ w = w' by rw [← inB_yes o1 o2]; exact isOffset_any off w)
  have HC := Lib.hid (fun m w => course_any (m := m) off o1 o2 w)
  generalize S.against off = p at *
  generalize max off (-off) = far at *
  clear h o1 o2
  go_enter Try.func60, Try.ntmps60
  go_wp2_with fail
  refine (HN.out _).mono ?_
  rintro e w1 ⟨rfl, u1⟩
  have k1 := blk_keep (.cells #[.int .i64 f, .int .i64 s, .int .i64 j, .int .i64 dl, .int .i64 dh] 79) (u1.blk k0)
  have U1 := (U0.trans u1).alloc (.cells #[.int .i64 f, .int .i64 s, .int .i64 j, .int .i64 dl, .int .i64 dh] 79)
  clear u1 U0 HN k0
  go_wp2_with fail
  refine (HO.out _).mono ?_
  rintro e w2 ⟨rfl, rfl⟩
  go_wp2_with fail
  refine (HK.out _).mono ?_
  rintro e w3 ⟨v, rfl, u3, K3⟩
  obtain ⟨m, _, _, rfl, _, _⟩ := K3.is
  have U3 := U1.trans u3
  have k3 := u3.blk k1
  clear u3 U1 HK HO k1
  go_wp2_with fail
  refine (HC.out m _).mono ?_
  rintro e w4 ⟨rfl, u4⟩
  have k4 := u4.blk k3
  have z4 := frozB k4
  have c4 := cellB k4
  have n0 : w.heap.size ≤ w.heap.size + 1 := by omega
  have UE := (((U3.trans u4).set (p := ⟨w.heap.size + 1, 0, none⟩) n0 (.map (some m))).set (p := ⟨w.heap.size + 1, 1, none⟩) n0 (.int .i64 p)).set (p := ⟨w.heap.size + 1, 2, none⟩) n0 (.int .i64 far)
  have C := Lib.hid (cellB (blk_put (blk_put (blk_put k4 0 (.map (some m))) 1 (.int .i64 p)) 2 (.int .i64 far)))
  have KE := Lib.hid ((((K3.up u4).put k4 0 (.map (some m))).put (blk_put k4 0 (.map (some m))) 1 (.int .i64 p)).put (blk_put (blk_put k4 0 (.map (some m))) 1 (.int .i64 p)) 2 (.int .i64 far))
  clear n0 u4 k3 U3 K3
  go_wp2_with fail
  have c := C.out
  exact bodyPost_ret (v := .tuple #[CV m p far, .int .i64 0]) (by simp [results, Try.results60, go_sem, c]) rfl ⟨m, rfl, UE, KE.out⟩

set_option maxRecDepth 100000 in
theorem Fewest_no (w : World) (h : S.ok f s j dl dh = false) (off : Int) : Calls Try.prog 18 #[RV f s j dl dh, .int .i64 off] w fun e w' => e = .returned (.tuple #[.int .i64 0, .int .i64 40]) ∧ Up w w' := by
  have U0 := (Up.refl w).alloc (.cells #[.int .i64 f, .int .i64 s, .int .i64 j, .int .i64 dl, .int .i64 dh] 25)
  have HN := Lib.hid (fun w => newCourse_no w h off)
  clear h
  go_enter Try.func18, Try.ntmps18
  go_wp2_with fail
  refine (HN.out _).mono ?_
  rintro e w1 ⟨rfl, u1⟩
  go_wp2
  go_ret2
  exact ⟨rfl, (U0.trans u1).alloc _⟩
set_option maxRecDepth 100000 in
theorem Fewest_ask (w : World) (h : S.ok f s j dl dh = true) (off : Int) (ho : ¬ (-20000 ≤ off ∧ off ≤ 20000)) : Calls Try.prog 18 #[RV f s j dl dh, .int .i64 off] w fun e w' => e = .returned (.tuple #[.int .i64 0, .int .i64 41]) ∧ Up w w' := by
  have U0 := (Up.refl w).alloc (.cells #[.int .i64 f, .int .i64 s, .int .i64 j, .int .i64 dl, .int .i64 dh] 25)
  have HN := Lib.hid (fun w => newCourse_ask w h off ho)
  clear h ho
  go_enter Try.func18, Try.ntmps18
  go_wp2_with fail
  refine (HN.out _).mono ?_
  rintro e w1 ⟨rfl, u1⟩
  go_wp2
  go_ret2
  exact ⟨rfl, (U0.trans u1).alloc _⟩
set_option maxRecDepth 100000 in
theorem Fewest_yes (w : World) (h : S.ok f s j dl dh = true) (off : Int) (o1 : -20000 ≤ off) (o2 : off ≤ 20000) {r : Nat} (hf : S.First (fun x => decide (max off (-off) ≤ S.most (S.part f s (S.against off)) j x)) 201 r) : Calls Try.prog 18 #[RV f s j dl dh, .int .i64 off] w fun e w' => e = .returned (.tuple #[.int .i64 (if r ≤ 200 then r else 0), .int .i64 (if r ≤ 200 then 0 else 4)]) ∧ Up w w' := by
  have U0 := (Up.refl w).alloc (.cells #[.int .i64 f, .int .i64 s, .int .i64 j, .int .i64 dl, .int .i64 dh] 25)
  have HN := Lib.hid (fun w => newCourse_yes w h off o1 o2)
  have HF := Lib.hid (fun m w (K : S.Know w (.map (some m)) f s j) => fewest_any h (S.against_is off) K hf)
  generalize (if r ≤ 200 then (r : Int) else 0) = a at *
  generalize (if r ≤ 200 then (0 : Int) else 4) = b at *
  clear hf
  generalize S.against off = p at *
  generalize max off (-off) = far at *
  clear h o1 o2
  go_enter Try.func18, Try.ntmps18
  go_wp2_with fail
  refine (HN.out _).mono ?_
  rintro e w1 ⟨m, rfl, u1, K1⟩
  have V := Up.alloc (Up.refl w1) (.cells #[.map (some m), .int .i64 p, .int .i64 far] 89)
  have U1 := (U0.trans u1).trans V
  have K2 := K1.up V
  clear u1 U0 HN K1 V
  go_wp2_with fail
  refine (HF.out m _ K2).mono ?_
  rintro e w2 ⟨rfl, u2⟩
  go_wp2
  go_ret2
  exact ⟨rfl, U1.trans u2⟩

set_option maxRecDepth 100000 in
theorem Plan_no (w : World) (h : S.ok f s j dl dh = false) (off : Int) : Calls Try.prog 20 #[RV f s j dl dh, .int .i64 off] w fun e w' => e = .returned (.tuple #[.slice none 0 0, .int .i64 40]) ∧ Up w w' := by
  have U0 := (Up.refl w).alloc (.cells #[.int .i64 f, .int .i64 s, .int .i64 j, .int .i64 dl, .int .i64 dh] 25)
  have HN := Lib.hid (fun w => newCourse_no w h off)
  clear h
  go_enter Try.func20, Try.ntmps20
  go_wp2_with fail
  refine (HN.out _).mono ?_
  rintro e w1 ⟨rfl, u1⟩
  go_wp2
  go_ret2
  exact ⟨rfl, (U0.trans u1).alloc _⟩
set_option maxRecDepth 100000 in
theorem Plan_ask (w : World) (h : S.ok f s j dl dh = true) (off : Int) (ho : ¬ (-20000 ≤ off ∧ off ≤ 20000)) : Calls Try.prog 20 #[RV f s j dl dh, .int .i64 off] w fun e w' => e = .returned (.tuple #[.slice none 0 0, .int .i64 41]) ∧ Up w w' := by
  have U0 := (Up.refl w).alloc (.cells #[.int .i64 f, .int .i64 s, .int .i64 j, .int .i64 dl, .int .i64 dh] 25)
  have HN := Lib.hid (fun w => newCourse_ask w h off ho)
  clear h ho
  go_enter Try.func20, Try.ntmps20
  go_wp2_with fail
  refine (HN.out _).mono ?_
  rintro e w1 ⟨rfl, u1⟩
  go_wp2
  go_ret2
  exact ⟨rfl, (U0.trans u1).alloc _⟩
set_option maxRecDepth 100000 in
theorem Plan_none (w : World) (h : S.ok f s j dl dh = true) (off : Int) (o1 : -20000 ≤ off) (o2 : off ≤ 20000) {r : Nat} (hf : S.First (fun x => decide (max off (-off) ≤ S.most (S.part f s (S.against off)) j x)) 201 r) (h2 : 200 < r) : Calls Try.prog 20 #[RV f s j dl dh, .int .i64 off] w fun e w' => e = .returned (.tuple #[.slice none 0 0, .int .i64 4]) ∧ Up w w' := by
  have U0 := (Up.refl w).alloc (.cells #[.int .i64 f, .int .i64 s, .int .i64 j, .int .i64 dl, .int .i64 dh] 25)
  have HN := Lib.hid (fun w => newCourse_yes w h off o1 o2)
  have HF := Lib.hid (fun m w (K : S.Know w (.map (some m)) f s j) => plan_no h (S.against_is off) K hf h2)
  clear hf
  generalize S.against off = p at *
  generalize max off (-off) = far at *
  clear h o1 o2
  go_enter Try.func20, Try.ntmps20
  go_wp2_with fail
  refine (HN.out _).mono ?_
  rintro e w1 ⟨m, rfl, u1, K1⟩
  have V := Up.alloc (Up.refl w1) (.cells #[.map (some m), .int .i64 p, .int .i64 far] 89)
  have U1 := (U0.trans u1).trans V
  have K2 := K1.up V
  clear u1 U0 HN K1 V
  go_wp2_with fail
  refine (HF.out m _ K2).mono ?_
  rintro e w2 ⟨rfl, u2⟩
  go_wp2
  go_ret2
  exact ⟨rfl, U1.trans u2⟩
set_option maxRecDepth 100000 in
theorem Plan_yes (w : World) (h : S.ok f s j dl dh = true) (off : Int) (o1 : -20000 ≤ off) (o2 : off ≤ 20000) {T : Nat} (hf : S.First (fun x => decide (max off (-off) ≤ S.most (S.part f s (S.against off)) j x)) 201 T) (hT : T ≤ 200) : Calls Try.prog 20 #[RV f s j dl dh, .int .i64 off] w fun e w' => ∃ (v : Value) (L : Nat), e = .returned (.tuple #[v, .int .i64 0]) ∧ S.Level (S.add (S.part f s (S.against off)) j T) T (max off (-off)) L ∧ Up w w' ∧ Ints w' v (S.list (fun x => S.sign (S.against off) * S.bit (S.add (S.part f s (S.against off)) j T) L (max off (-off) - S.sm (S.lo (S.add (S.part f s (S.against off)) j T) L) T) x) T 0) := by
  have U0 := (Up.refl w).alloc (.cells #[.int .i64 f, .int .i64 s, .int .i64 j, .int .i64 dl, .int .i64 dh] 25)
  have HN := Lib.hid (fun w => newCourse_yes w h off o1 o2)
  have HF := Lib.hid (fun m w (K : S.Know w (.map (some m)) f s j) => plan_yes h (S.against_is off) (by omega) (by omega) K hf hT)
  clear hf
  generalize S.against off = p at *
  generalize max off (-off) = far at *
  clear h o1 o2
  go_enter Try.func20, Try.ntmps20
  go_wp2_with fail
  refine (HN.out _).mono ?_
  rintro e w1 ⟨m, rfl, u1, K1⟩
  have V := Up.alloc (Up.refl w1) (.cells #[.map (some m), .int .i64 p, .int .i64 far] 89)
  have U1 := (U0.trans u1).trans V
  have K2 := K1.up V
  clear u1 U0 HN K1 V
  go_wp2_with fail
  refine (HF.out m _ K2).mono ?_
  rintro e w2 ⟨v, L, rfl, hL, u2, I2⟩
  go_wp2
  go_ret2
  exact ⟨v, L, rfl, hL, U1.trans u2, I2⟩
end

end Go.Proofs.Ytcadpdbadgejfaa
