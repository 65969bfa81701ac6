import Derived.Test.YtcadpdbadgejfaaRfq
/- The law ScaleMeets. -/
namespace Go.Proofs.Ytcadpdbadgejfaa
open Go.RowKit

section
variable {f s j dl dh ticks : Int} {a a' : Option Addr} {n c n' c' : Nat} {xs : List Int} {ls : List (Int × Int × Int)}
theorem S.wst_one2 {b : S.Bk} {o o' : S.Ofs} {n : Nat} (h : ∀ t, t ≤ n → b.Ends t (o t).1 (o t).2) (h' : ∀ t, t ≤ n → b.Ends t (o' t).1 (o' t).2) : S.wst (fun i => S.far (o i).1 (o i).2) (n + 1) = S.wst (fun i => S.far (o' i).1 (o' i).2) (n + 1) :=
  S.wst_ext fun t ht => by
    have := (h t (by omega)).uniq (h' t (by omega))
    show S.far _ _ = S.far _ _
    rw [this.1, this.2]
theorem S.ToldW.uniq {tk of e tk' of' e' : Int} (A : S.ToldW f s j dl dh ticks xs ls tk of e) (C : S.ToldW f s j dl dh ticks xs ls tk' of' e') : tk = tk' ∧ of = of' ∧ e = e' := by
  cases hb : S.bookOk f s j dl dh ticks xs ls
  · have p := A.no hb
    have q := C.no hb
    omega
  · rcases A.yes hb with ⟨p1, p2, p3, p4⟩ | ⟨p1, o, p2, p3, p4⟩ <;> rcases C.yes hb with ⟨q1, q2, q3, q4⟩ | ⟨q1, o', q2, q3, q4⟩
    · omega
    · obtain ⟨v, hv, _⟩ := (q2 0 (Nat.zero_le _)).low; exact absurd hv (p4 v)
    · obtain ⟨v, hv, _⟩ := (p2 0 (Nat.zero_le _)).low; exact absurd hv (q4 v)
    · have := S.wst_one2 p2 q2
      rw [this] at p3 p4
      exact ⟨p3.trans q3.symm, p4.trans q4.symm, p1.trans q1.symm⟩
/-- what Meets answers -/
def S.ToldM (f s j dl dh ticks : Int) (xs : List Int) (ls : List (Int × Int × Int)) (x y e : Int) : Prop := ∃ l h r, S.Told f s j dl dh ticks xs ls ticks l h r ∧ ((r ≠ 0 ∧ x = 0 ∧ y = 0 ∧ e = r) ∨ (r = 0 ∧ ∃ rl rh rn, S.Few f s j l rl ∧ S.Few f s j h rh ∧ S.Few f s j (S.near l h) rn ∧ Value.tuple #[.int .i64 x, .int .i64 y, .int .i64 e] = S.meetsV rl rh rn))
theorem S.meets_tuple (rl rh rn : Nat) : ∃ x y e : Int, S.meetsV rl rh rn = .tuple #[.int .i64 x, .int .i64 y, .int .i64 e] := by
  unfold S.meetsV
  split
  · exact ⟨_, _, _, rfl⟩
  · exact ⟨_, _, _, rfl⟩
theorem S.ToldM.uniq {x y e x' y' e' : Int} (A : S.ToldM f s j dl dh ticks xs ls x y e) (C : S.ToldM f s j dl dh ticks xs ls x' y' e') : x = x' ∧ y = y' ∧ e = e' := by
  obtain ⟨l, h, r, T, p⟩ := A
  obtain ⟨l', h', r', T', q⟩ := C
  obtain ⟨rfl, rfl, rfl⟩ := T.uniq T'
  rcases p with ⟨p0, p1, p2, p3⟩ | ⟨p0, rl, rh, rn, p1, p2, p3, p4⟩ <;> rcases q with ⟨q0, q1, q2, q3⟩ | ⟨q0, rl', rh', rn', q1, q2, q3, q4⟩
  · omega
  · exact absurd q0 p0
  · exact absurd p0 q0
  · obtain rfl := S.First.one p1 q1
    obtain rfl := S.First.one p2 q2
    obtain rfl := S.First.one p3 q3
    have := p4.trans q4.symm
    injection this with this
    injection this with this
    injection this with h1 this
    injection this with h2 this
    injection this with h3 this
    injection h1 with _ h1
    injection h2 with _ h2
    injection h3 with _ h3
    exact ⟨h1, h2, h3⟩
theorem Meets_m {w : World} (I : Ints w (.slice a n c) xs) (I' : Lks w (.slice a' n' c') ls) : Calls Try.prog 35 #[BV f s j dl dh ticks (.slice a n c) (.slice a' n' c')] w fun e w' => ∃ x y r, e = .returned (.tuple #[.int .i64 x, .int .i64 y, .int .i64 r]) ∧ S.ToldM f s j dl dh ticks xs ls x y r ∧ Up w w' := by
  refine (Meets_any I I').mono ?_
  rintro e w' ⟨l, h, r, hT, hU, ⟨r0, rfl⟩ | ⟨rfl, rl, rh, rn, h1, h2, h3, rfl⟩⟩
  · exact ⟨0, 0, r, rfl, ⟨l, h, r, hT, .inl ⟨r0, rfl, rfl, rfl⟩⟩, hU⟩
  · obtain ⟨x, y, e, he⟩ := S.meets_tuple rl rh rn
    exact ⟨x, y, e, by rw [he], ⟨l, h, 0, hT, .inr ⟨rfl, rl, rh, rn, h1, h2, h3, he.symm⟩⟩, hU⟩
theorem r_Meets_m {w : World} (I : Ints w (.slice a n c) xs) (I' : Lks w (.slice a' n' c') ls) : Calls Try.prog 36 #[BV f s j dl dh ticks (.slice a n c) (.slice a' n' c')] w fun e w' => ∃ x y r, e = .returned (.tuple #[.int .i64 x, .int .i64 y, .int .i64 r]) ∧ S.ToldM f s j dl dh ticks xs ls x y r ∧ Up w w' := by
  refine (r_Meets_any I I').mono ?_
  rintro e w' ⟨l, h, r, hT, hU, ⟨r0, rfl⟩ | ⟨rfl, rl, rh, rn, h1, h2, h3, rfl⟩⟩
  · exact ⟨0, 0, r, rfl, ⟨l, h, r, hT, .inl ⟨r0, rfl, rfl, rfl⟩⟩, hU⟩
  · obtain ⟨x, y, e, he⟩ := S.meets_tuple rl rh rn
    exact ⟨x, y, e, by rw [he], ⟨l, h, 0, hT, .inr ⟨rfl, rl, rh, rn, h1, h2, h3, he.symm⟩⟩, hU⟩
set_option maxRecDepth 100000 in
set_option maxHeartbeats 4000000 in
theorem scaleMeets_any {w : World} (I : Ints w (.slice a n c) xs) (I' : Lks w (.slice a' n' c') ls) : Calls Try.prog 6 #[BV f s j dl dh ticks (.slice a n c) (.slice a' n' c')] w fun e w' => e = .returned (.bool true) ∧ Up w w' := by
  have U0 := (Up.refl w).alloc (.cells (BC f s j dl dh ticks (.slice a n c) (.slice a' n' c')) 44)
  have k2 := blk_new w (.cells (BC f s j dl dh ticks (.slice a n c) (.slice a' n' c')) 44) _ rfl
  have HW := Lib.hid (fun w => l_works_any w)
  have HE1 := Lib.hid (fun w' (u : Up w w') => Worst_any (f := f) (s := s) (j := j) (dl := dl) (dh := dh) (ticks := ticks) (I.up u) (I'.up u))
  have HE2 := Lib.hid (fun w' (u : Up w w') => r_Worst_any (f := f) (s := s) (j := j) (dl := dl) (dh := dh) (ticks := ticks) (I.up u) (I'.up u))
  have HS1 := Lib.hid (fun w' (u : Up w w') => Meets_m (f := f) (s := s) (j := j) (dl := dl) (dh := dh) (ticks := ticks) (I.up u) (I'.up u))
  have HS2 := Lib.hid (fun w' (u : Up w w') => r_Meets_m (f := f) (s := s) (j := j) (dl := dl) (dh := dh) (ticks := ticks) (I.up u) (I'.up u))
  clear I I'
  go_enter Try.func6, Try.ntmps6
  go_wp2_with fail
  refine (HE1.out _ U0).mono ?_
  rintro e w1 ⟨x1, y1, r1, rfl, T1, u1⟩
  replace k2 := u1.blk k2
  replace U0 := U0.trans u1
  clear u1 HE1
  go_wp2_with fail
  refine (HE2.out _ U0).mono ?_
  rintro e w2 ⟨x2, y2, r2, rfl, T2, u2⟩
  obtain ⟨rfl, rfl, rfl⟩ := T1.uniq T2
  replace k2 := u2.blk k2
  replace U0 := U0.trans u2
  clear u2 HE2 T1 T2
  go_wp2_with fail
  refine (HS1.out _ U0).mono ?_
  rintro e w3 ⟨x3, y3, r3, rfl, T3, u3⟩
  replace k2 := u3.blk k2
  replace U0 := U0.trans u3
  clear u3 HS1
  go_wp2_with fail
  refine (HS2.out _ U0).mono ?_
  rintro e w4 ⟨x4, y4, r4, rfl, T4, u4⟩
  obtain ⟨rfl, rfl, rfl⟩ := T3.uniq T4
  replace U0 := U0.trans u4
  clear u4 HS2 T3 T4 k2
  go_wp2_with fail
  refine (HW.out _).mono ?_
  rintro x w7 ⟨rfl, u7⟩
  go_wp2
  go_ret
  exact ⟨rfl, U0.trans u7⟩
end

end Go.Proofs.Ytcadpdbadgejfaa
