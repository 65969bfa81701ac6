import Derived.Test.YtckjggkikpgidaaCol
/- The contracts of Collect, most, reach, course and areEnough. -/
namespace Go.Proofs.Ytckjggkikpgidaa
open Go.RowKit

theorem cell_course {w : World} {b : Nat} {cs : Array Value} (h : mblk w b = some (.cells cs 89 (0, 0))) (j : Nat) : w.cell? ⟨b, j, none⟩ = cs[j]? := cellB h j
attribute [go_sem] cell_course

theorem S.sum_add {e j : Int} (he : 0 ≤ e) (he2 : e ≤ 500) (hj : 0 ≤ j) {T : Nat} (hT : T ≤ 200) : wrap64 (S.list (S.add e j T) T 0).sum = S.most e j T ∧ 0 ≤ S.most e j T ∧ S.most e j T ≤ 100000 := by
  have b := S.most_bd he hj T
  have c : (T : Int) * e ≤ 200 * 500 := Int.mul_le_mul (by omega) he2 he (by omega)
  rw [S.sum_list]
  show wrap64 (S.most e j T) = _ ∧ _
  exact ⟨wrap_in ⟨by omega, by omega⟩, by omega, by omega⟩

set_option maxRecDepth 100000 in
theorem collect_adds {f s j p : Int} (hp : p = 0 ∨ p = 1 ∨ p = 2) {T : Nat} (hT : T ≤ 200) (b5 b3 b4 m nn : Nat) (M : DataW Nat) (hM : S.MapIs M (S.knows f s j)) (w : World) (gm : m < w.heap.size)
    (h5 : mblk w b5 = some (.cells #[.int .i64 T] 3 (0, 0))) (h3 : mblk w b3 = some (.cells #[.map (some m)] 86 (0, 0))) (h4 : mblk w b4 = some (.cells #[.int .i64 p] 87 (0, 0))) (ho : S.Own w m nn M) :
    Calls Try.prog 104 #[.func (.func 114) #[] #[.pointer (some ⟨b5, 0, none⟩), .pointer (some ⟨b3, 0, none⟩), .pointer (some ⟨b4, 0, none⟩)]] w fun e w' => ∃ v, e = .returned v ∧ Up w w' ∧ Ints w' v (S.list (S.add (S.part f s p) j T) T 0) := by
  have K := Lib.hid (appendSeq_adds (f := f) (s := s) hp hT b5 b3 b4 m nn M hM w gm h5 h3 h4 ho)
  clear hM h5 h3 h4 ho hp
  go_enter Try.func104, Try.ntmps104
  go_wp2_with fail
  refine K.out.mono ?_
  rintro e w1 ⟨v, rfl, u1, i1⟩
  have I1 := Lib.hid i1
  clear i1
  go_wp2
  go_ret
  exact ⟨_, rfl, u1, I1.out⟩

theorem S.part_bd {f s j dl dh : Int} (hr : S.ok f s j dl dh = true) (p : Int) : 0 ≤ S.part f s p ∧ S.part f s p ≤ 500 := by
  obtain ⟨h1, h2, h3, h4⟩ := S.ok_iff.1 hr
  unfold S.part; split
  · omega
  · split <;> omega

set_option maxRecDepth 100000 in
theorem most_any {f s j dl dh p : Int} (hr : S.ok f s j dl dh = true) (hp : p = 0 ∨ p = 1 ∨ p = 2) {T : Nat} (hT : T ≤ 200) {v : Value} {w : World} (K : S.Know w v f s j) :
    Calls Try.prog 89 #[v, .int .i64 p, .int .i64 T] w fun e w' => e = .returned (.int .i64 (S.most (S.part f s p) j T)) ∧ Up w w' := by
  obtain ⟨m, n, M, rfl, ho, hM⟩ := K.is
  obtain ⟨p1, p2⟩ := S.part_bd hr p
  obtain ⟨h1, h2, h3, h4⟩ := S.ok_iff.1 hr
  obtain ⟨e1, e2, e3⟩ := S.sum_add (j := j) p1 p2 (by omega) hT
  have HC := Lib.hid (fun w' (u : Up w w') b5 b3 b4 q5 q3 q4 => collect_adds (f := f) (s := s) (j := j) hp hT b5 b3 b4 m n M hM w' (by have := ho.lt; have := u.size; omega) q5 q3 q4 (ho.kept (up_grown u none) (by simp)))
  have HE := Lib.hid e1
  have U := ((Up.refl w).alloc (.cells #[.map (some m)] 86)).alloc (.cells #[.int .i64 p] 87) |>.alloc (.cells #[.int .i64 T] 3)
  clear ho hM K hr e1 hp
  go_enter Try.func89, Try.ntmps89
  go_wp2_with fail
  refine (adds_any _ _ _ _).mono ?_
  rintro e w1 ⟨rfl, hw1⟩
  have q3 : mblk w1 w.heap.size = some (.cells #[.map (some m)] 86 (0, 0)) := by rw [← hw1]; exact blk_keep _ (blk_keep _ (blk_new _ _ _ rfl))
  have q4 : mblk w1 (w.heap.size + 1) = some (.cells #[.int .i64 p] 87 (0, 0)) := by rw [← hw1]; exact blk_keep _ (blk_new _ _ _ (by simp))
  have q5 : mblk w1 (w.heap.size + 1 + 1) = some (.cells #[.int .i64 T] 3 (0, 0)) := by rw [← hw1]; exact blk_new _ _ _ (by simp)
  rw [hw1] at U
  clear hw1
  go_wp2_with fail
  refine (HC.out _ U _ _ _ q5 q3 q4).mono ?_
  rintro e w2 ⟨v, rfl, u2, I2⟩
  have KS := Lib.hid (sum_any I2)
  rw [HE.out] at KS
  clear I2 HC q3 q4 q5
  go_wp2_with fail
  refine KS.out.mono ?_
  rintro e w3 ⟨rfl, rfl⟩
  go_wp2
  go_ret
  exact ⟨rfl, U.trans u2⟩

abbrev SpV (a b : Int) : Value := .agg #[.int .i64 a, .int .i64 b]
set_option maxRecDepth 100000 in
theorem reach_any {f s j dl dh : Int} (hr : S.ok f s j dl dh = true) {T : Nat} (hT : T ≤ 200) {v : Value} {w : World} (K : S.Know w v f s j) :
    Calls Try.prog 67 #[v, .int .i64 T] w fun e w' => e = .returned (SpV (-(S.most s j T)) (S.most f j T)) ∧ Up w w' := by
  obtain ⟨h1, h2, h3, h4⟩ := S.ok_iff.1 hr
  obtain ⟨_, a2, a3⟩ := S.sum_add (e := s) (j := j) h2.1 h2.2 (by omega) hT
  obtain ⟨_, b2, b3⟩ := S.sum_add (e := f) (j := j) h1.1 h1.2 (by omega) hT
  have U := (Up.refl w).alloc (.cells #[.int .i64 0, .int .i64 0] 23)
  have K0 := Lib.hid (fun w' (u : Up w w') => most_any hr (p := 0) (by simp) hT (K.up u))
  have K2 := Lib.hid (fun w' (u : Up w w') => most_any hr (p := 2) (by simp) hT (K.up u))
  have e0 : S.part f s 0 = s := by simp [S.part]
  have e2 : S.part f s 2 = f := by simp [S.part]
  rw [e0] at K0
  rw [e2] at K2
  obtain ⟨m, n, M, rfl, _, _⟩ := K.is
  generalize S.most s j T = a at *
  generalize S.most f j T = b at *
  have k0 := blk_new w (.cells #[.int .i64 0, .int .i64 0] 23) _ rfl
  clear hr K e0 e2
  go_enter Try.func67, Try.ntmps67
  go_wp2_with fail
  refine (K0.out _ U).mono ?_
  rintro e w1 ⟨rfl, u1⟩
  have U1 := U.trans u1
  have k1 := u1.blk k0
  clear u1 k0 U K0
  go_wp2_with fail
  refine (K2.out _ U1).mono ?_
  rintro e w2 ⟨rfl, u2⟩
  have U2 := U1.trans u2
  have k2 := u2.blk k1
  have z2 := frozB k2
  clear u2 k1 U1 K2
  have c := cellB (blk_put (blk_put k2 0 (.int .i64 (-a))) 1 (.int .i64 b))
  have n0 : w.heap.size ≤ w.heap.size := Nat.le_refl _
  have UE := (U2.set (p := ⟨w.heap.size, 0, none⟩) n0 (.int .i64 (-a))).set (p := ⟨w.heap.size, 1, none⟩) n0 (.int .i64 b)
  clear n0
  have C := Lib.hid c
  clear c
  go_wp2_with fail
  have c := C.out
  exact bodyPost_ret (v := SpV (-a) b) (by simp [results, Try.results67, go_sem, c]) rfl ⟨rfl, UE⟩

/-- the direction against an offset -/
def S.against (off : Int) : Int := if 0 < off then 0 else if off < 0 then 2 else 1
theorem S.against_is (off : Int) : S.against off = 0 ∨ S.against off = 1 ∨ S.against off = 2 := by
  unfold S.against
  split
  · exact .inl rfl
  · split
    · exact .inr (.inr rfl)
    · exact .inr (.inl rfl)
set_option maxRecDepth 100000 in
theorem course_any {m : Nat} (off : Int) (o1 : -20000 ≤ off) (o2 : off ≤ 20000) (w : World) :
    Calls Try.prog 83 #[.map (some m), .int .i64 off] w fun e w' => e = .returned (.agg #[.map (some m), .int .i64 (S.against off), .int .i64 (max off (-off))]) ∧ Up w w' := by
  have hMx : ∀ (ts : Array TypeId) (t' : TypeId) (w : World), (Builtin.max_ ts t' #[.int .i64 off, .int .i64 (-off)]).run Try.prog w = .ok (.int .i64 (max off (-off))) w := fun ts t' w => by
    have e : (if -off > off then -off else off) = max off (-off) := by split <;> omega
    rw [run_max_int2, e]
  have KA : ∀ w, Calls Try.prog 97 #[.int .i64 off] w fun e w' => e = .returned (.int .i64 (S.against off)) ∧ w = w' := fun w => against_any off w
  have HA := Lib.hid KA
  generalize S.against off = p at *
  generalize max off (-off) = far at *
  clear KA
  go_enter Try.func83, Try.ntmps83
  go_wp2_with fail
  refine (HA.out _).mono ?_
  rintro e w1 ⟨rfl, rfl⟩
  go_wp2_with fail
  exact bodyPost_ret (v := .agg #[.map (some m), .int .i64 p, .int .i64 far]) (by simp [results, Try.results83, go_sem]) rfl ⟨rfl, (Up.refl w).alloc _⟩

end Go.Proofs.Ytckjggkikpgidaa
