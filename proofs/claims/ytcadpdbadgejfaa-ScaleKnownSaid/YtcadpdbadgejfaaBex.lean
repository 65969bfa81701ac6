import Derived.Test.YtcadpdbadgejfaaMee
/- The contracts of Error, Stated, Worst and Meets. -/
namespace Go.Proofs.Ytcadpdbadgejfaa
open Go.RowKit

def S.bk (dl dh ticks : Int) (xs : List Int) (ls : List (Int × Int × Int)) : S.Bk := ⟨ticks.toNat, dl, dh, xs, ls⟩
theorem S.keeps_all {f s j : Int} : ∀ (xs : List Int) (last : Int), S.keeps f s j last xs = true → ∀ i, i < xs.length → -s ≤ xs.getD i 0 ∧ xs.getD i 0 ≤ f
  | [], _, _, i, hi => by simp at hi
  | x :: xs, last, h, i, hi => by
    simp only [S.keeps, Bool.and_eq_true, decide_eq_true_eq] at h
    cases i with
    | zero => exact h.1.1.1
    | succ i => exact S.keeps_all xs x h.2 i (by simp at hi; omega)
theorem S.bookOk_iff {f s j dl dh ticks : Int} {xs : List Int} {ls : List (Int × Int × Int)} : S.bookOk f s j dl dh ticks xs ls = true ↔ S.ok f s j dl dh = true ∧ (1 ≤ ticks ∧ ticks ≤ 60) ∧ ((xs.length : Int) ≤ ticks ∧ S.keeps f s j 0 xs = true) ∧ ls.length ≤ 10 ∧ ls.all (S.lookOk ticks) = true := by
  unfold S.bookOk
  rw [Bool.and_eq_true, Bool.and_eq_true, Bool.and_eq_true, Bool.and_eq_true, Bool.and_eq_true, inB_iff, decide_eq_true_iff, decide_eq_true_iff]
theorem S.bk_good {f s j dl dh ticks : Int} {xs : List Int} {ls : List (Int × Int × Int)} (h : S.bookOk f s j dl dh ticks xs ls = true) : (S.bk dl dh ticks xs ls).Good := by
  obtain ⟨h1, h2, ⟨h3, h4⟩, h5, h6⟩ := S.bookOk_iff.1 h
  obtain ⟨⟨f1, f2⟩, ⟨s1, s2⟩, _, d1, d2, d3⟩ := S.ok_iff.1 h1
  refine ⟨by show 1 ≤ ticks.toNat; omega, by show ticks.toNat ≤ 60; omega, fun i => ?_, ⟨by show -100 ≤ dl; omega, by show dl ≤ 100; omega⟩, ⟨by show -100 ≤ dh; omega, by show dh ≤ 100; omega⟩, h5⟩
  show -500 ≤ xs.getD i 0 ∧ xs.getD i 0 ≤ 500
  by_cases hi : i < xs.length
  · have := S.keeps_all xs 0 h4 i hi; omega
  · rw [List.getD_eq_getElem?_getD, List.getElem?_eq_none (by omega)]; simp
/-- what Error answers -/
structure S.Told (f s j dl dh ticks : Int) (xs : List Int) (ls : List (Int × Int × Int)) (tick l h e : Int) : Prop where
  no : S.bookOk f s j dl dh ticks xs ls = false → l = 0 ∧ h = 0 ∧ e = 40
  ask : S.bookOk f s j dl dh ticks xs ls = true → ¬ (0 ≤ tick ∧ tick ≤ ticks) → l = 0 ∧ h = 0 ∧ e = 41
  yes : S.bookOk f s j dl dh ticks xs ls = true → 0 ≤ tick ∧ tick ≤ ticks → (l = 0 ∧ h = 0 ∧ e = 42 ∧ ∀ v, ¬ (S.bk dl dh ticks xs ls).Tru v) ∨ (e = 0 ∧ (S.bk dl dh ticks xs ls).Ends tick.toNat l h)
theorem S.Told.uniq {f s j dl dh ticks : Int} {xs : List Int} {ls : List (Int × Int × Int)} {tick l h e l' h' e' : Int} (a : S.Told f s j dl dh ticks xs ls tick l h e) (c : S.Told f s j dl dh ticks xs ls tick l' h' e') : l = l' ∧ h = h' ∧ e = e' := by
  cases hb : S.bookOk f s j dl dh ticks xs ls
  · have p := a.no hb
    have q := c.no hb
    omega
  · by_cases ht : 0 ≤ tick ∧ tick ≤ ticks
    · rcases a.yes hb ht with ⟨p1, p2, p3, p4⟩ | ⟨p1, p2⟩ <;> rcases c.yes hb ht with ⟨q1, q2, q3, q4⟩ | ⟨q1, q2⟩
      · omega
      · obtain ⟨v, hv, _⟩ := q2.low; exact absurd hv (p4 v)
      · obtain ⟨v, hv, _⟩ := p2.low; exact absurd hv (q4 v)
      · have := p2.uniq q2; omega
    · have p := a.ask hb ht
      have q := c.ask hb ht
      omega
/-- what Worst answers -/
structure S.ToldW (f s j dl dh ticks : Int) (xs : List Int) (ls : List (Int × Int × Int)) (tk of e : Int) : Prop where
  no : S.bookOk f s j dl dh ticks xs ls = false → tk = 0 ∧ of = 0 ∧ e = 40
  yes : S.bookOk f s j dl dh ticks xs ls = true → (tk = 0 ∧ of = 0 ∧ e = 42 ∧ ∀ v, ¬ (S.bk dl dh ticks xs ls).Tru v) ∨ (e = 0 ∧ ∃ o : S.Ofs, (∀ t, t ≤ ticks.toNat → (S.bk dl dh ticks xs ls).Ends t (o t).1 (o t).2) ∧ tk = (S.wst (fun i => S.far (o i).1 (o i).2) (ticks.toNat + 1)).1 ∧ of = (S.wst (fun i => S.far (o i).1 (o i).2) (ticks.toNat + 1)).2)

section
variable {f s j dl dh ticks : Int} {a a' : Option Addr} {n c n' c' : Nat} {xs : List Int} {ls : List (Int × Int × Int)}
theorem offsets_bk {w : World} (h : S.bookOk f s j dl dh ticks xs ls = true) (I : Ints w (.slice a n c) xs) (I' : Lks w (.slice a' n' c') ls) : Calls Try.prog 75 #[BV f s j dl dh ticks (.slice a n c) (.slice a' n' c')] w fun e w' => Up w w' ∧ ((∃ cs o, e = .returned (.tuple #[.agg cs, .int .i64 0]) ∧ S.OC cs o ∧ S.Fine o ∧ (S.bk dl dh ticks xs ls).Fix o ∧ (S.bk dl dh ticks xs ls).Holds o) ∨ (e = .returned (.tuple #[.agg OZ, .int .i64 42]) ∧ ∀ v, ¬ (S.bk dl dh ticks xs ls).Tru v)) := by
  have K := offsets_any (f := f) (s := s) (j := j) (S.bk_good h) (w := w) (a := a) (n1 := n) (c := c) (a' := a') (n2 := n') (c' := c') I I'
  have e : ((S.bk dl dh ticks xs ls).ticks : Int) = ticks := by
    have := (S.bookOk_iff.1 h).2.1
    show (ticks.toNat : Int) = ticks
    omega
  rw [e] at K
  exact K
set_option maxRecDepth 100000 in
theorem Error_no {w : World} (I : Ints w (.slice a n c) xs) (I' : Lks w (.slice a' n' c') ls) (tick : Int) (h : S.bookOk f s j dl dh ticks xs ls = false) : Calls Try.prog 27 #[BV f s j dl dh ticks (.slice a n c) (.slice a' n' c'), .int .i64 tick] w fun e w' => e = .returned (.tuple #[SpV 0 0, .int .i64 40]) ∧ Up w w' := by
  have U0 := ((Up.refl w).alloc (.cells (BC f s j dl dh ticks (.slice a n c) (.slice a' n' c')) 44)).alloc (.cells #[.int .i64 0, .int .i64 0] 23)
  have k4 := blk_new (w.alloc (.cells (BC f s j dl dh ticks (.slice a n c) (.slice a' n' c')) 44)) (.cells #[.int .i64 0, .int .i64 0] 23) (w.heap.size + 1) (by simp)
  have HN := Lib.hid (newBook_no (I.up U0) (I'.up U0) h)
  clear I I' h
  go_enter Try.func27, Try.ntmps27
  go_wp2_with fail
  refine HN.out.mono ?_
  rintro e w1 ⟨rfl, u1⟩
  have m4 := u1.blk k4
  have V2 := U0.trans u1
  clear u1 k4 U0 HN
  have m4' := blk_keep (.cells BCZ 104) m4
  have lt := blk_lt m4
  have zz := frozB m4
  have z4 := frozB m4'
  have UE := ((V2.set (p := ⟨w.heap.size + 1, 0, none⟩) (show w.heap.size ≤ w.heap.size + 1 by omega) (.int .i64 0)).set (p := ⟨w.heap.size + 1, 1, none⟩) (show w.heap.size ≤ w.heap.size + 1 by omega) (.int .i64 0)).alloc (.cells BCZ 104)
  have C := Lib.hid (cellB (blk_keep (.cells BCZ 104) (blk_put (blk_put m4 0 (.int .i64 0)) 1 (.int .i64 0))))
  clear V2 m4'
  go_wp2_with fail
  have cc := C.out
  exact bodyPost_ret (v := .tuple #[SpV 0 0, .int .i64 40]) (by simp [results, Try.results27, go_sem, cc]) rfl ⟨rfl, UE⟩

set_option maxRecDepth 100000 in
theorem Error_ask {w : World} (I : Ints w (.slice a n c) xs) (I' : Lks w (.slice a' n' c') ls) (tick : Int) (h : S.bookOk f s j dl dh ticks xs ls = true) (ht : ¬ (0 ≤ tick ∧ tick ≤ ticks)) : Calls Try.prog 27 #[BV f s j dl dh ticks (.slice a n c) (.slice a' n' c'), .int .i64 tick] w fun e w' => e = .returned (.tuple #[SpV 0 0, .int .i64 41]) ∧ Up w w' := by
  have U0 := ((Up.refl w).alloc (.cells (BC f s j dl dh ticks (.slice a n c) (.slice a' n' c')) 44)).alloc (.cells #[.int .i64 0, .int .i64 0] 23)
  have k4 := blk_new (w.alloc (.cells (BC f s j dl dh ticks (.slice a n c) (.slice a' n' c')) 44)) (.cells #[.int .i64 0, .int .i64 0] 23) (w.heap.size + 1) (by simp)
  have HN := Lib.hid (newBook_yes (I.up U0) (I'.up U0) h)
  have HT := Lib.hid (fun w => show Calls Try.prog 74 #[BV f s j dl dh ticks (.slice a n c) (.slice a' n' c'), .int .i64 tick] w fun e w' => e = .returned (.bool false) ∧ Up w w' by rw [← inB_no ht]; exact isTick_any tick w)
  clear I I' h ht
  go_enter Try.func27, Try.ntmps27
  go_wp2_with fail
  refine HN.out.mono ?_
  rintro e w1 ⟨rfl, u1⟩
  have l4 := u1.blk k4
  have U1 := U0.trans u1
  clear u1 k4 U0 HN
  obtain ⟨p6, hp6⟩ : ∃ p, w1.heap.size = p := ⟨_, rfl⟩
  obtain ⟨W2, hW2⟩ : ∃ W2, w1.alloc (.cells (BC f s j dl dh ticks (.slice a n c) (.slice a' n' c')) 104) = W2 := ⟨_, rfl⟩
  have m4 : mblk W2 (w.heap.size + 1) = some (.cells #[.int .i64 0, .int .i64 0] 23 (0, 0)) := by rw [← hW2]; exact blk_keep _ l4
  have m6 : mblk W2 p6 = some (.cells (BC f s j dl dh ticks (.slice a n c) (.slice a' n' c')) 104 (0, 0)) := by rw [← hW2]; exact blk_new _ _ _ hp6.symm
  have V2 : Up w W2 := by rw [← hW2]; exact U1.alloc _
  clear U1 l4
  go_wp2_with fail
  refine (HT.out _).mono ?_
  rintro e w3 ⟨rfl, u3⟩
  replace m4 := u3.blk m4
  replace V2 := V2.trans u3
  clear u3 m6 hW2 hp6
  have z4 := frozB m4
  have UE := (V2.set (p := ⟨w.heap.size + 1, 0, none⟩) (show w.heap.size ≤ w.heap.size + 1 by omega) (.int .i64 0)).set (p := ⟨w.heap.size + 1, 1, none⟩) (show w.heap.size ≤ w.heap.size + 1 by omega) (.int .i64 0)
  have C := Lib.hid (cellB (blk_put (blk_put m4 0 (.int .i64 0)) 1 (.int .i64 0)))
  clear V2
  go_wp2_with fail
  have cc := C.out
  exact bodyPost_ret (v := .tuple #[SpV 0 0, .int .i64 41]) (by simp [results, Try.results27, go_sem, cc]) rfl ⟨rfl, UE⟩

set_option maxRecDepth 100000 in
set_option maxHeartbeats 1000000 in
theorem Error_yes {w : World} (I : Ints w (.slice a n c) xs) (I' : Lks w (.slice a' n' c') ls) (tick : Int) (h : S.bookOk f s j dl dh ticks xs ls = true) (ht : 0 ≤ tick ∧ tick ≤ ticks) : Calls Try.prog 27 #[BV f s j dl dh ticks (.slice a n c) (.slice a' n' c'), .int .i64 tick] w fun e w' => Up w w' ∧ ((∃ l h, e = .returned (.tuple #[SpV l h, .int .i64 0]) ∧ (S.bk dl dh ticks xs ls).Ends tick.toNat l h) ∨ (e = .returned (.tuple #[SpV 0 0, .int .i64 42]) ∧ ∀ v, ¬ (S.bk dl dh ticks xs ls).Tru v)) := by
  have U0 := ((Up.refl w).alloc (.cells (BC f s j dl dh ticks (.slice a n c) (.slice a' n' c')) 44)).alloc (.cells #[.int .i64 0, .int .i64 0] 23)
  have k4 := blk_new (w.alloc (.cells (BC f s j dl dh ticks (.slice a n c) (.slice a' n' c')) 44)) (.cells #[.int .i64 0, .int .i64 0] 23) (w.heap.size + 1) (by simp)
  have HN := Lib.hid (newBook_yes (I.up U0) (I'.up U0) h)
  have HT := Lib.hid (fun w => show Calls Try.prog 74 #[BV f s j dl dh ticks (.slice a n c) (.slice a' n' c'), .int .i64 tick] w fun e w' => e = .returned (.bool true) ∧ Up w w' by rw [← inB_yes ht.1 ht.2]; exact isTick_any tick w)
  have HF := Lib.hid (fun w' (u : Up w w') => offsets_bk h (I.up u) (I'.up u))
  have tk60 := (S.bookOk_iff.1 h).2.1
  clear I I' h
  go_enter Try.func27, Try.ntmps27
  go_wp2_with fail
  refine HN.out.mono ?_
  rintro e w1 ⟨rfl, u1⟩
  have l4 := u1.blk k4
  have U1 := U0.trans u1
  clear u1 k4 U0 HN
  obtain ⟨p6, hp6⟩ : ∃ p, w1.heap.size = p := ⟨_, rfl⟩
  obtain ⟨W2, hW2⟩ : ∃ W2, w1.alloc (.cells (BC f s j dl dh ticks (.slice a n c) (.slice a' n' c')) 104) = W2 := ⟨_, rfl⟩
  have m4 : mblk W2 (w.heap.size + 1) = some (.cells #[.int .i64 0, .int .i64 0] 23 (0, 0)) := by rw [← hW2]; exact blk_keep _ l4
  have m6 : mblk W2 p6 = some (.cells (BC f s j dl dh ticks (.slice a n c) (.slice a' n' c')) 104 (0, 0)) := by rw [← hW2]; exact blk_new _ _ _ hp6.symm
  have V2 : Up w W2 := by rw [← hW2]; exact U1.alloc _
  clear U1 l4
  go_wp2_with fail
  refine (HT.out _).mono ?_
  rintro e w3 ⟨rfl, u3⟩
  replace m4 := u3.blk m4
  replace m6 := u3.blk m6
  replace V2 := V2.trans u3
  clear u3 hW2 hp6 HT
  go_wp2_with fail
  refine (HF.out _ V2).mono ?_
  rintro e w4 ⟨u4, ⟨cs, o, rfl, hoc, hFi, hFx, hHo⟩ | ⟨rfl, hno⟩⟩
  · replace m4 := u4.blk m4
    have V4 := V2.trans u4
    have HEn := Lib.hid (S.Bk.Ends.of hFi hFx hHo (i := tick.toNat) (by show tick.toNat ≤ ticks.toNat; omega))
    obtain ⟨k, rfl⟩ : ∃ k : Nat, tick = k := ⟨tick.toNat, by omega⟩
    rw [Int.toNat_natCast] at HEn
    have k61 : (k : Int) < 61 := by omega
    have d1 := hoc.lo k (by omega)
    have d2 := hoc.hi k (by omega)
    have hok := hoc.one
    have hs := Lib.hid hoc.size
    have zsz := Lib.hid OZ_size
    obtain ⟨l, hl⟩ : ∃ l, (o k).1 = l := ⟨_, rfl⟩
    obtain ⟨h, hh⟩ : ∃ h, (o k).2 = h := ⟨_, rfl⟩
    rw [hl] at d1 HEn
    rw [hh] at d2 HEn
    clear u4 hFi hFx hHo hoc hl hh HF V2 m6
    obtain ⟨p8, hp8⟩ : ∃ p, w4.heap.size = p := ⟨_, rfl⟩
    obtain ⟨W5, hW5⟩ : ∃ W5, w4.alloc (.cells cs 108) = W5 := ⟨_, rfl⟩
    replace m4 : mblk W5 (w.heap.size + 1) = some (.cells #[.int .i64 0, .int .i64 0] 23 (0, 0)) := by rw [← hW5]; exact blk_keep _ m4
    have m8 : mblk W5 p8 = some (.cells cs 108 (0, 0)) := by rw [← hW5]; exact blk_new _ _ _ hp8.symm
    have V2 : Up w W5 := by rw [← hW5]; exact V4.alloc _
    clear V4
    have z4 := frozB m4
    have UE := (V2.set (p := ⟨w.heap.size + 1, 0, none⟩) (show w.heap.size ≤ w.heap.size + 1 by omega) (.int .i64 l)).set (p := ⟨w.heap.size + 1, 1, none⟩) (show w.heap.size ≤ w.heap.size + 1 by omega) (.int .i64 h)
    have C := Lib.hid (cellB (blk_put (blk_put m4 0 (.int .i64 l)) 1 (.int .i64 h)))
    clear V2
    go_wp2_with fail
    have cc := C.out
    exact bodyPost_ret (v := .tuple #[SpV l h, .int .i64 0]) (by simp [results, Try.results27, go_sem, cc]) rfl ⟨UE, .inl ⟨l, h, rfl, by rw [Int.toNat_natCast]; exact HEn.out⟩⟩
  · replace m4 := u4.blk m4
    have V4 := V2.trans u4
    have hok := OZ_ok
    have zsz := Lib.hid OZ_size
    have HNo := Lib.hid hno
    clear u4 hno HF m6 V2
    have V2 := V4
    clear V4
    have m4' := blk_keep (.cells OZ 108) m4
    have lt := blk_lt m4
    have zz := frozB m4
    have z4 := frozB m4'
    have UE := ((V2.set (p := ⟨w.heap.size + 1, 0, none⟩) (show w.heap.size ≤ w.heap.size + 1 by omega) (.int .i64 0)).set (p := ⟨w.heap.size + 1, 1, none⟩) (show w.heap.size ≤ w.heap.size + 1 by omega) (.int .i64 0)).alloc (.cells OZ 108)
    have C := Lib.hid (cellB (blk_keep (.cells OZ 108) (blk_put (blk_put m4 0 (.int .i64 0)) 1 (.int .i64 0))))
    clear V2 m4'
    go_wp2_with fail
    have cc := C.out
    exact bodyPost_ret (v := .tuple #[SpV 0 0, .int .i64 42]) (by simp [results, Try.results27, go_sem, cc]) rfl ⟨UE, .inr ⟨rfl, HNo.out⟩⟩

theorem Error_any {w : World} (I : Ints w (.slice a n c) xs) (I' : Lks w (.slice a' n' c') ls) (tick : Int) : Calls Try.prog 27 #[BV f s j dl dh ticks (.slice a n c) (.slice a' n' c'), .int .i64 tick] w fun e w' => ∃ l h r, e = .returned (.tuple #[SpV l h, .int .i64 r]) ∧ S.Told f s j dl dh ticks xs ls tick l h r ∧ Up w w' := by
  cases hb : S.bookOk f s j dl dh ticks xs ls
  · exact (Error_no I I' tick hb).mono fun e w' ⟨he, hu⟩ => ⟨0, 0, 40, he, ⟨fun _ => ⟨rfl, rfl, rfl⟩, fun h => (by rw [hb] at h; cases h), fun h => (by rw [hb] at h; cases h)⟩, hu⟩
  · by_cases ht : 0 ≤ tick ∧ tick ≤ ticks
    · refine (Error_yes I I' tick hb ht).mono ?_
      rintro e w' ⟨hu, ⟨l, h, he, hE⟩ | ⟨he, hn⟩⟩
      · exact ⟨l, h, 0, he, ⟨fun h => (by rw [hb] at h; cases h), fun _ h => absurd ht h, fun _ _ => .inr ⟨rfl, hE⟩⟩, hu⟩
      · exact ⟨0, 0, 42, he, ⟨fun h => (by rw [hb] at h; cases h), fun _ h => absurd ht h, fun _ _ => .inl ⟨rfl, rfl, rfl, hn⟩⟩, hu⟩
    · exact (Error_ask I I' tick hb ht).mono fun e w' ⟨he, hu⟩ => ⟨0, 0, 41, he, ⟨fun h => (by rw [hb] at h; cases h), fun _ _ => ⟨rfl, rfl, rfl⟩, fun _ h => absurd h ht⟩, hu⟩
theorem S.Told.ok0 {tick l h : Int} (t : S.Told f s j dl dh ticks xs ls tick l h 0) : S.bookOk f s j dl dh ticks xs ls = true ∧ (0 ≤ tick ∧ tick ≤ ticks) ∧ (S.bk dl dh ticks xs ls).Ends tick.toNat l h := by
  cases hb : S.bookOk f s j dl dh ticks xs ls
  · have := t.no hb; omega
  · by_cases ht : 0 ≤ tick ∧ tick ≤ ticks
    · rcases t.yes hb ht with ⟨_, _, h3, _⟩ | ⟨_, h2⟩
      · omega
      · exact ⟨rfl, ht, h2⟩
    · have := t.ask hb ht; omega
theorem S.Told.ne0 {tick l h r : Int} (t : S.Told f s j dl dh ticks xs ls tick l h r) (hr : r ≠ 0) : l = 0 ∧ h = 0 := by
  cases hb : S.bookOk f s j dl dh ticks xs ls
  · have := t.no hb; omega
  · by_cases ht : 0 ≤ tick ∧ tick ≤ ticks
    · rcases t.yes hb ht with ⟨h1, h2, _, _⟩ | ⟨h1, _⟩
      · exact ⟨h1, h2⟩
      · omega
    · have := t.ask hb ht; omega
theorem S.Told.fine {tick l h r : Int} (t : S.Told f s j dl dh ticks xs ls tick l h r) : -20000 ≤ l ∧ l ≤ h ∧ h ≤ 20000 := by
  by_cases hr : r = 0
  · subst hr
    obtain ⟨hb, ht, hE⟩ := t.ok0
    exact hE.fine (by show tick.toNat ≤ ticks.toNat; omega)
  · have := t.ne0 hr; omega
set_option maxRecDepth 100000 in
theorem Stated_any {w : World} (I : Ints w (.slice a n c) xs) (I' : Lks w (.slice a' n' c') ls) (tick : Int) : Calls Try.prog 31 #[BV f s j dl dh ticks (.slice a n c) (.slice a' n' c'), .int .i64 tick] w fun e w' => ∃ l h r, e = .returned (.tuple #[.int .i64 (S.far l h), .int .i64 r]) ∧ S.Told f s j dl dh ticks xs ls tick l h r ∧ Up w w' := by
  have U0 := (Up.refl w).alloc (.cells (BC f s j dl dh ticks (.slice a n c) (.slice a' n' c')) 44)
  have HE := Lib.hid (Error_any (f := f) (s := s) (j := j) (dl := dl) (dh := dh) (ticks := ticks) (I.up U0) (I'.up U0) tick)
  clear I I'
  go_enter Try.func31, Try.ntmps31
  go_wp2_with fail
  refine HE.out.mono ?_
  rintro e w1 ⟨l, h, r, rfl, hT, u1⟩
  have V := (U0.trans u1).alloc (.cells #[.int .i64 l, .int .i64 h] 23)
  have k6 := blk_new w1 (.cells #[.int .i64 l, .int .i64 h] 23) _ rfl
  have c6 := cellB k6
  obtain ⟨b1, b2, b3⟩ := hT.fine
  have HFa := Lib.hid (fun w => farthest_any l h w (by omega) (by omega) (by omega) (by omega))
  clear u1 U0 HE
  by_cases hr : r = 0
  · subst hr
    go_wp2_with fail
    refine (HFa.out _).mono ?_
    rintro e w2 ⟨rfl, u2⟩
    go_wp2
    go_ret2
    exact ⟨l, h, 0, rfl, hT, V.trans u2⟩
  · have hb : (r != 0) = true := by simp [hr]
    obtain ⟨rfl, rfl⟩ := hT.ne0 hr
    clear HFa
    go_wp2
    go_ret2
    exact ⟨0, 0, r, rfl, hT, V⟩
set_option maxRecDepth 100000 in
set_option maxHeartbeats 1000000 in
theorem Worst_any {w : World} (I : Ints w (.slice a n c) xs) (I' : Lks w (.slice a' n' c') ls) : Calls Try.prog 33 #[BV f s j dl dh ticks (.slice a n c) (.slice a' n' c')] w fun e w' => ∃ tk of r, e = .returned (.tuple #[.int .i64 tk, .int .i64 of, .int .i64 r]) ∧ S.ToldW f s j dl dh ticks xs ls tk of r ∧ Up w w' := by
  have U0 := (Up.refl w).alloc (.cells (BC f s j dl dh ticks (.slice a n c) (.slice a' n' c')) 44)
  cases hb : S.bookOk f s j dl dh ticks xs ls with
  | false =>
    have HN := Lib.hid (newBook_no (I.up U0) (I'.up U0) hb)
    have HT := Lib.hid (show S.ToldW f s j dl dh ticks xs ls 0 0 40 from ⟨fun _ => ⟨rfl, rfl, rfl⟩, fun h => (by rw [hb] at h; cases h)⟩)
    clear I I' hb
    go_enter Try.func33, Try.ntmps33
    go_wp2_with fail
    refine HN.out.mono ?_
    rintro e w1 ⟨rfl, u1⟩
    have V := (U0.trans u1).alloc (.cells BCZ 104)
    clear u1 U0 HN
    go_wp2
    exact bodyPost_ret (v := .tuple #[.int .i64 0, .int .i64 0, .int .i64 40]) (by simp [results, Try.results33, go_sem]) rfl ⟨0, 0, 40, rfl, HT.out, V⟩
  | true =>
    have HN := Lib.hid (newBook_yes (I.up U0) (I'.up U0) hb)
    have HF := Lib.hid (fun w' (u : Up w w') => offsets_bk hb (I.up u) (I'.up u))
    obtain ⟨tN, rfl⟩ : ∃ k : Nat, ticks = k := ⟨ticks.toNat, by have := (S.bookOk_iff.1 hb).2.1; omega⟩
    have t60 : tN ≤ 60 := by have := (S.bookOk_iff.1 hb).2.1; omega
    have HTN := Lib.hid (fun (hn : ∀ v, ¬ (S.bk dl dh tN xs ls).Tru v) => show S.ToldW f s j dl dh tN xs ls 0 0 42 from ⟨fun h => (by rw [hb] at h; cases h), fun _ => .inl ⟨rfl, rfl, rfl, hn⟩⟩)
    have HTY := Lib.hid (fun tk of (hy : ∃ o : S.Ofs, (∀ t, t ≤ (tN : Int).toNat → (S.bk dl dh tN xs ls).Ends t (o t).1 (o t).2) ∧ tk = (S.wst (fun i => S.far (o i).1 (o i).2) ((tN : Int).toNat + 1)).1 ∧ of = (S.wst (fun i => S.far (o i).1 (o i).2) ((tN : Int).toNat + 1)).2) => show S.ToldW f s j dl dh tN xs ls tk of 0 from ⟨fun h => (by rw [hb] at h; cases h), fun _ => .inr ⟨rfl, hy⟩⟩)
    have HWs := Lib.hid (fun (o : S.Ofs) (hF : S.Fine o) cs (hcs : S.OC cs o) w => worst_any (f := f) (s := s) (j := j) (dl := dl) (dh := dh) (a := a) (n1 := n) (c := c) (a' := a') (n2 := n') (c' := c') t60 hF hcs w)
    clear I I' hb
    go_enter Try.func33, Try.ntmps33
    go_wp2_with fail
    refine HN.out.mono ?_
    rintro e w1 ⟨rfl, u1⟩
    have V := (U0.trans u1).alloc (.cells (BC f s j dl dh tN (.slice a n c) (.slice a' n' c')) 104)
    have k5 := blk_new w1 (.cells (BC f s j dl dh tN (.slice a n c) (.slice a' n' c')) 104) _ rfl
    clear u1 U0 HN
    go_wp2_with fail
    refine (HF.out _ V).mono ?_
    rintro e w2 ⟨u2, ⟨cs, o, rfl, hoc, hFi, hFx, hHo⟩ | ⟨rfl, hno⟩⟩
    · have V2 := (V.trans u2).alloc (.cells cs 108)
      have k6 := blk_keep (.cells cs 108) (u2.blk k5)
      have k7 := blk_new w2 (.cells cs 108) _ rfl
      have lt6 := blk_lt (u2.blk k5)
      have hok := hoc.one
      have hs := Lib.hid hoc.size
      have zsz := Lib.hid OZ_size
      have HW2 := Lib.hid (HWs.out o hFi cs hoc)
      have HE := Lib.hid (HTY.out _ _ ⟨o, fun t ht => S.Bk.Ends.of hFi hFx hHo (by show t ≤ (tN : Int).toNat; exact ht), rfl, rfl⟩)
      rw [Int.toNat_natCast] at HE
      generalize (S.wst (fun i => S.far (o i).1 (o i).2) (tN + 1)) = wv at *
      obtain ⟨tk, of⟩ := wv
      simp only at HW2 HE
      clear hFi hFx hHo hoc u2 V k5 HF HWs HTN HTY
      go_wp2_with fail
      refine (HW2.out _).mono ?_
      rintro e w3 ⟨rfl, u3⟩
      go_wp2
      exact bodyPost_ret (v := .tuple #[.int .i64 tk, .int .i64 of, .int .i64 0]) (by simp [results, Try.results33, go_sem]) rfl ⟨tk, of, 0, rfl, HE.out, V2.trans u3⟩
    · have V2 := (V.trans u2).alloc (.cells OZ 108)
      have HE := Lib.hid (HTN.out hno)
      have hok := OZ_ok
      have zsz := Lib.hid OZ_size
      clear u2 V k5 HF HWs HTN HTY hno
      go_wp2
      exact bodyPost_ret (v := .tuple #[.int .i64 0, .int .i64 0, .int .i64 42]) (by simp [results, Try.results33, go_sem]) rfl ⟨0, 0, 42, rfl, HE.out, V2⟩
set_option maxRecDepth 100000 in
set_option maxHeartbeats 1000000 in
theorem Meets_any {w : World} (I : Ints w (.slice a n c) xs) (I' : Lks w (.slice a' n' c') ls) : Calls Try.prog 35 #[BV f s j dl dh ticks (.slice a n c) (.slice a' n' c')] w fun e w' => ∃ l h r, S.Told f s j dl dh ticks xs ls ticks l h r ∧ Up w w' ∧ ((r ≠ 0 ∧ e = .returned (.tuple #[.int .i64 0, .int .i64 0, .int .i64 r])) ∨ (r = 0 ∧ ∃ rl rh rn, S.Few f s j l rl ∧ S.Few f s j h rh ∧ S.Few f s j (S.near l h) rn ∧ e = .returned (S.meetsV rl rh rn))) := by
  have U0 := (Up.refl w).alloc (.cells (BC f s j dl dh ticks (.slice a n c) (.slice a' n' c')) 44)
  have k1 := blk_new w (.cells (BC f s j dl dh ticks (.slice a n c) (.slice a' n' c')) 44) _ rfl
  have HE := Lib.hid (Error_any (f := f) (s := s) (j := j) (dl := dl) (dh := dh) (ticks := ticks) (I.up U0) (I'.up U0) ticks)
  clear I I'
  go_enter Try.func35, Try.ntmps35
  go_wp2_with fail
  refine HE.out.mono ?_
  rintro e w1 ⟨l, h, r, rfl, hT, u1⟩
  have V := (U0.trans u1).alloc (.cells #[.int .i64 l, .int .i64 h] 23)
  have k2 := blk_keep (.cells #[.int .i64 l, .int .i64 h] 23) (u1.blk k1)
  have k6 := blk_new w1 (.cells #[.int .i64 l, .int .i64 h] 23) _ rfl
  have lt1 := blk_lt (u1.blk k1)
  obtain ⟨b1, b2, b3⟩ := hT.fine
  clear u1 U0 HE k1
  by_cases hr : r = 0
  · subst hr
    have hok := (S.bookOk_iff.1 hT.ok0.1).1
    obtain ⟨rl, hrl⟩ := S.Few.ex f s j l
    obtain ⟨rh, hrh⟩ := S.Few.ex f s j h
    obtain ⟨rn, hrn⟩ := S.Few.ex f s j (S.near l h)
    have HM := Lib.hid (fun w => meets_any (ticks := ticks) (a := a) (n1 := n) (c := c) (a' := a') (n2 := n') (c' := c') hok b1 b2 b3 hrl hrh hrn w)
    have HT := Lib.hid hT
    have H1 := Lib.hid hrl
    have H2 := Lib.hid hrh
    have H3 := Lib.hid hrn
    obtain ⟨sv, bv, ev, hmv⟩ : ∃ sv bv ev : Int, S.meetsV rl rh rn = .tuple #[.int .i64 sv, .int .i64 bv, .int .i64 ev] := by
      unfold S.meetsV
      split
      · exact ⟨_, _, _, rfl⟩
      · exact ⟨_, _, _, rfl⟩
    rw [hmv] at HM
    have HV := Lib.hid hmv
    clear hT hrl hrh hrn hmv hok
    go_wp2_with fail
    refine (HM.out _).mono ?_
    rintro e w2 ⟨rfl, u2⟩
    go_wp2
    exact bodyPost_ret (v := .tuple #[.int .i64 sv, .int .i64 bv, .int .i64 ev]) (by simp [results, Try.results35, go_sem]) rfl ⟨l, h, 0, HT.out, V.trans u2, .inr ⟨rfl, rl, rh, rn, H1.out, H2.out, H3.out, by rw [HV.out]⟩⟩
  · have hb : (r != 0) = true := by simp [hr]
    have HT := Lib.hid hT
    clear hT
    go_wp2
    exact bodyPost_ret (v := .tuple #[.int .i64 0, .int .i64 0, .int .i64 r]) (by simp [results, Try.results35, go_sem]) rfl ⟨l, h, r, HT.out, V, .inl ⟨hr, rfl⟩⟩
end

end Go.Proofs.Ytcadpdbadgejfaa
