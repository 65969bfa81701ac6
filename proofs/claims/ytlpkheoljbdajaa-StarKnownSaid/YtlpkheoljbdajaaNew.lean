import Derived.Test.YtlpkheoljbdajaaBoo
/- The contract of newBook. -/
namespace Go.Proofs.Ytlpkheoljbdajaa
open Go.RowKit Go.Shelf

/-- is a book valid? -/
def T.valid (N bl bh rl rh : Int) (ps qs : List (Int × Int)) (ls : List T.T5) : Bool :=
  T.nightsOk N bl bh rl rh && (T.othersOk ps qs && (decide (ls.length ≤ 10) && ls.all (T.lookOk ps.length qs.length N)))
abbrev BkZ : Value := .agg #[.int .i64 0, .int .i64 0, .int .i64 0, .int .i64 0, .int .i64 0, .slice none 0 0, .slice none 0 0, .slice none 0 0, .bool false, .bool false, .bool false, .bool false, .bool false, .bool false, .bool false, .bool false, .bool false, .bool false]
section
variable {N bl bh rl rh : Int} {aP aQ aL : Option Addr} {nP cP nQ cQ nL cL : Nat} {ps qs : List (Int × Int)} {ls : List T.T5}
theorem T.nights_N (h : T.nightsOk N bl bh rl rh = true) : 1 ≤ N ∧ N ≤ 8 := by
  unfold T.nightsOk at h
  rw [Bool.and_eq_true] at h
  exact inB_iff.1 h.1
set_option maxRecDepth 100000 in
set_option maxHeartbeats 2000000 in
theorem newBook_no1 {w : World} (I : Sps w (.slice aP nP cP) ps) (J : Sps w (.slice aQ nQ cQ) qs) (_K : Lks w (.slice aL nL cL) ls) (h1 : T.nightsOk N bl bh rl rh = false) : Calls Try.prog 55 #[BoV N bl bh rl rh (.slice aP nP cP) (.slice aQ nQ cQ) (.slice aL nL cL)] w fun e w' => e = .returned (.tuple #[BkZ, .int .i64 30]) ∧ Up w w' := by
  have U := (((Up.refl w).alloc (.cells (BoC N bl bh rl rh (.slice aP nP cP) (.slice aQ nQ cQ) (.slice aL nL cL)) 27)).alloc (.cells #[.int .i64 0, .int .i64 0, .int .i64 0, .int .i64 0, .int .i64 0, .slice none 0 0, .slice none 0 0, .slice none 0 0, .bool false, .bool false, .bool false, .bool false, .bool false, .bool false, .bool false, .bool false, .bool false, .bool false] 81)).alloc (.cells (BkC N bl bh rl rh (.slice aP nP cP) (.slice aQ nQ cQ) (.slice aL nL cL) T.o0) 81)
  have k2 := blk_keep (.cells (BkC N bl bh rl rh (.slice aP nP cP) (.slice aQ nQ cQ) (.slice aL nL cL) T.o0) 81) (blk_new (w.alloc (.cells (BoC N bl bh rl rh (.slice aP nP cP) (.slice aQ nQ cQ) (.slice aL nL cL)) 27)) (.cells #[.int .i64 0, .int .i64 0, .int .i64 0, .int .i64 0, .int .i64 0, .slice none 0 0, .slice none 0 0, .slice none 0 0, .bool false, .bool false, .bool false, .bool false, .bool false, .bool false, .bool false, .bool false, .bool false, .bool false] 81) (w.heap.size + 1) (by simp))
  have k1 := blk_keep (.cells (BkC N bl bh rl rh (.slice aP nP cP) (.slice aQ nQ cQ) (.slice aL nL cL) T.o0) 81) (blk_keep (.cells #[.int .i64 0, .int .i64 0, .int .i64 0, .int .i64 0, .int .i64 0, .slice none 0 0, .slice none 0 0, .slice none 0 0, .bool false, .bool false, .bool false, .bool false, .bool false, .bool false, .bool false, .bool false, .bool false, .bool false] 81) (blk_new w (.cells (BoC N bl bh rl rh (.slice aP nP cP) (.slice aQ nQ cQ) (.slice aL nL cL)) 27) _ rfl))
  have k3 := blk_new ((w.alloc (.cells (BoC N bl bh rl rh (.slice aP nP cP) (.slice aQ nQ cQ) (.slice aL nL cL)) 27)).alloc (.cells #[.int .i64 0, .int .i64 0, .int .i64 0, .int .i64 0, .int .i64 0, .slice none 0 0, .slice none 0 0, .slice none 0 0, .bool false, .bool false, .bool false, .bool false, .bool false, .bool false, .bool false, .bool false, .bool false, .bool false] 81)) (.cells (BkC N bl bh rl rh (.slice aP nP cP) (.slice aQ nQ cQ) (.slice aL nL cL) T.o0) 81) (w.heap.size + 1 + 1) (by simp)
  have hP := I.max
  have hQ := J.max
  have hn := I.len
  have hm := J.len
  have n0 : w.heap.size ≤ w.heap.size + 1 := by omega
  have lt3 := blk_lt k3
  have lt2 := blk_lt k2
  have lt1 := blk_lt k1
  have H1 := Lib.hid (fun w' (_ : Up w w') => hasNights_any (N := N) (bl := bl) (bh := bh) (rl := rl) (rh := rh) (aP := aP) (aQ := aQ) (aL := aL) (nP := nP) (cP := cP) (nQ := nQ) (cQ := cQ) (nL := nL) (cL := cL) (o := T.o0) w')
  have H2 := Lib.hid (fun w' (up : Up w w') => hasOthers_any (N := N) (bl := bl) (bh := bh) (rl := rl) (rh := rh) (aP := aP) (aQ := aQ) (aL := aL) (nP := nP) (cP := cP) (nQ := nQ) (cQ := cQ) (nL := nL) (cL := cL) (o := T.o0) (I.up up) (J.up up))
  rw [h1] at H1
  clear h1 H2
  clear hn hm hP hQ I J
  go_enter Try.func55, Try.ntmps55
  go_wp2_with fail
  refine (H1.out _ U).mono ?_
  rintro e w1 ⟨rfl, u1⟩
  have U1 := U.trans u1
  replace k1 := u1.blk k1
  replace k2 := u1.blk k2
  replace k3 := u1.blk k3
  clear u1 U
  have UE := Up.setRow U1 n0 #[.int .i64 0, .int .i64 0, .int .i64 0, .int .i64 0, .int .i64 0, .slice none 0 0, .slice none 0 0, .slice none 0 0, .bool false, .bool false, .bool false, .bool false, .bool false, .bool false, .bool false, .bool false, .bool false, .bool false]
  have c := blk_setRow k2 #[.int .i64 0, .int .i64 0, .int .i64 0, .int .i64 0, .int .i64 0, .slice none 0 0, .slice none 0 0, .slice none 0 0, .bool false, .bool false, .bool false, .bool false, .bool false, .bool false, .bool false, .bool false, .bool false, .bool false]
  have C := Lib.hid c
  clear c n0
  go_wp2_with fail
  exact bodyPost_ret (results_bk rfl _ _ _ _ rfl C.out rfl) rfl ⟨rfl, UE⟩
set_option maxRecDepth 100000 in
set_option maxHeartbeats 2000000 in
theorem newBook_no2 {w : World} (I : Sps w (.slice aP nP cP) ps) (J : Sps w (.slice aQ nQ cQ) qs) (_K : Lks w (.slice aL nL cL) ls) (h1 : T.nightsOk N bl bh rl rh = true) (h2 : T.othersOk ps qs = false) : Calls Try.prog 55 #[BoV N bl bh rl rh (.slice aP nP cP) (.slice aQ nQ cQ) (.slice aL nL cL)] w fun e w' => e = .returned (.tuple #[BkZ, .int .i64 30]) ∧ Up w w' := by
  have U := (((Up.refl w).alloc (.cells (BoC N bl bh rl rh (.slice aP nP cP) (.slice aQ nQ cQ) (.slice aL nL cL)) 27)).alloc (.cells #[.int .i64 0, .int .i64 0, .int .i64 0, .int .i64 0, .int .i64 0, .slice none 0 0, .slice none 0 0, .slice none 0 0, .bool false, .bool false, .bool false, .bool false, .bool false, .bool false, .bool false, .bool false, .bool false, .bool false] 81)).alloc (.cells (BkC N bl bh rl rh (.slice aP nP cP) (.slice aQ nQ cQ) (.slice aL nL cL) T.o0) 81)
  have k2 := blk_keep (.cells (BkC N bl bh rl rh (.slice aP nP cP) (.slice aQ nQ cQ) (.slice aL nL cL) T.o0) 81) (blk_new (w.alloc (.cells (BoC N bl bh rl rh (.slice aP nP cP) (.slice aQ nQ cQ) (.slice aL nL cL)) 27)) (.cells #[.int .i64 0, .int .i64 0, .int .i64 0, .int .i64 0, .int .i64 0, .slice none 0 0, .slice none 0 0, .slice none 0 0, .bool false, .bool false, .bool false, .bool false, .bool false, .bool false, .bool false, .bool false, .bool false, .bool false] 81) (w.heap.size + 1) (by simp))
  have k1 := blk_keep (.cells (BkC N bl bh rl rh (.slice aP nP cP) (.slice aQ nQ cQ) (.slice aL nL cL) T.o0) 81) (blk_keep (.cells #[.int .i64 0, .int .i64 0, .int .i64 0, .int .i64 0, .int .i64 0, .slice none 0 0, .slice none 0 0, .slice none 0 0, .bool false, .bool false, .bool false, .bool false, .bool false, .bool false, .bool false, .bool false, .bool false, .bool false] 81) (blk_new w (.cells (BoC N bl bh rl rh (.slice aP nP cP) (.slice aQ nQ cQ) (.slice aL nL cL)) 27) _ rfl))
  have k3 := blk_new ((w.alloc (.cells (BoC N bl bh rl rh (.slice aP nP cP) (.slice aQ nQ cQ) (.slice aL nL cL)) 27)).alloc (.cells #[.int .i64 0, .int .i64 0, .int .i64 0, .int .i64 0, .int .i64 0, .slice none 0 0, .slice none 0 0, .slice none 0 0, .bool false, .bool false, .bool false, .bool false, .bool false, .bool false, .bool false, .bool false, .bool false, .bool false] 81)) (.cells (BkC N bl bh rl rh (.slice aP nP cP) (.slice aQ nQ cQ) (.slice aL nL cL) T.o0) 81) (w.heap.size + 1 + 1) (by simp)
  have hP := I.max
  have hQ := J.max
  have hn := I.len
  have hm := J.len
  have n0 : w.heap.size ≤ w.heap.size + 1 := by omega
  have lt3 := blk_lt k3
  have lt2 := blk_lt k2
  have lt1 := blk_lt k1
  have H1 := Lib.hid (fun w' (_ : Up w w') => hasNights_any (N := N) (bl := bl) (bh := bh) (rl := rl) (rh := rh) (aP := aP) (aQ := aQ) (aL := aL) (nP := nP) (cP := cP) (nQ := nQ) (cQ := cQ) (nL := nL) (cL := cL) (o := T.o0) w')
  have H2 := Lib.hid (fun w' (up : Up w w') => hasOthers_any (N := N) (bl := bl) (bh := bh) (rl := rl) (rh := rh) (aP := aP) (aQ := aQ) (aL := aL) (nP := nP) (cP := cP) (nQ := nQ) (cQ := cQ) (nL := nL) (cL := cL) (o := T.o0) (I.up up) (J.up up))
  rw [h1] at H1
  rw [h2] at H2
  clear h1 h2
  clear hn hm hP hQ I J
  go_enter Try.func55, Try.ntmps55
  go_wp2_with fail
  refine (H1.out _ U).mono ?_
  rintro e w1 ⟨rfl, u1⟩
  have U1 := U.trans u1
  replace k1 := u1.blk k1
  replace k2 := u1.blk k2
  replace k3 := u1.blk k3
  clear u1 U
  go_wp2_with fail
  refine (H2.out _ U1).mono ?_
  rintro e w2 ⟨rfl, u2⟩
  have U2 := U1.trans u2
  replace k1 := u2.blk k1
  replace k2 := u2.blk k2
  replace k3 := u2.blk k3
  clear u2 U1
  have UE := Up.setRow U2 n0 #[.int .i64 0, .int .i64 0, .int .i64 0, .int .i64 0, .int .i64 0, .slice none 0 0, .slice none 0 0, .slice none 0 0, .bool false, .bool false, .bool false, .bool false, .bool false, .bool false, .bool false, .bool false, .bool false, .bool false]
  have c := blk_setRow k2 #[.int .i64 0, .int .i64 0, .int .i64 0, .int .i64 0, .int .i64 0, .slice none 0 0, .slice none 0 0, .slice none 0 0, .bool false, .bool false, .bool false, .bool false, .bool false, .bool false, .bool false, .bool false, .bool false, .bool false]
  have C := Lib.hid c
  clear c n0
  go_wp2_with fail
  exact bodyPost_ret (results_bk rfl _ _ _ _ rfl C.out rfl) rfl ⟨rfl, UE⟩
set_option maxRecDepth 100000 in
set_option maxHeartbeats 2000000 in
theorem newBook_no3 {w : World} (I : Sps w (.slice aP nP cP) ps) (J : Sps w (.slice aQ nQ cQ) qs) (K : Lks w (.slice aL nL cL) ls) (h1 : T.nightsOk N bl bh rl rh = true) (h2 : T.othersOk ps qs = true) (h3 : (decide (ls.length ≤ 10) && ls.all (T.lookOk ps.length qs.length N)) = false) : Calls Try.prog 55 #[BoV N bl bh rl rh (.slice aP nP cP) (.slice aQ nQ cQ) (.slice aL nL cL)] w fun e w' => e = .returned (.tuple #[BkZ, .int .i64 30]) ∧ Up w w' := by
  have U := (((Up.refl w).alloc (.cells (BoC N bl bh rl rh (.slice aP nP cP) (.slice aQ nQ cQ) (.slice aL nL cL)) 27)).alloc (.cells #[.int .i64 0, .int .i64 0, .int .i64 0, .int .i64 0, .int .i64 0, .slice none 0 0, .slice none 0 0, .slice none 0 0, .bool false, .bool false, .bool false, .bool false, .bool false, .bool false, .bool false, .bool false, .bool false, .bool false] 81)).alloc (.cells (BkC N bl bh rl rh (.slice aP nP cP) (.slice aQ nQ cQ) (.slice aL nL cL) T.o0) 81)
  have k2 := blk_keep (.cells (BkC N bl bh rl rh (.slice aP nP cP) (.slice aQ nQ cQ) (.slice aL nL cL) T.o0) 81) (blk_new (w.alloc (.cells (BoC N bl bh rl rh (.slice aP nP cP) (.slice aQ nQ cQ) (.slice aL nL cL)) 27)) (.cells #[.int .i64 0, .int .i64 0, .int .i64 0, .int .i64 0, .int .i64 0, .slice none 0 0, .slice none 0 0, .slice none 0 0, .bool false, .bool false, .bool false, .bool false, .bool false, .bool false, .bool false, .bool false, .bool false, .bool false] 81) (w.heap.size + 1) (by simp))
  have k1 := blk_keep (.cells (BkC N bl bh rl rh (.slice aP nP cP) (.slice aQ nQ cQ) (.slice aL nL cL) T.o0) 81) (blk_keep (.cells #[.int .i64 0, .int .i64 0, .int .i64 0, .int .i64 0, .int .i64 0, .slice none 0 0, .slice none 0 0, .slice none 0 0, .bool false, .bool false, .bool false, .bool false, .bool false, .bool false, .bool false, .bool false, .bool false, .bool false] 81) (blk_new w (.cells (BoC N bl bh rl rh (.slice aP nP cP) (.slice aQ nQ cQ) (.slice aL nL cL)) 27) _ rfl))
  have k3 := blk_new ((w.alloc (.cells (BoC N bl bh rl rh (.slice aP nP cP) (.slice aQ nQ cQ) (.slice aL nL cL)) 27)).alloc (.cells #[.int .i64 0, .int .i64 0, .int .i64 0, .int .i64 0, .int .i64 0, .slice none 0 0, .slice none 0 0, .slice none 0 0, .bool false, .bool false, .bool false, .bool false, .bool false, .bool false, .bool false, .bool false, .bool false, .bool false] 81)) (.cells (BkC N bl bh rl rh (.slice aP nP cP) (.slice aQ nQ cQ) (.slice aL nL cL) T.o0) 81) (w.heap.size + 1 + 1) (by simp)
  have hP := I.max
  have hQ := J.max
  have hn := I.len
  have hm := J.len
  have n0 : w.heap.size ≤ w.heap.size + 1 := by omega
  have lt3 := blk_lt k3
  have lt2 := blk_lt k2
  have lt1 := blk_lt k1
  have H1 := Lib.hid (fun w' (_ : Up w w') => hasNights_any (N := N) (bl := bl) (bh := bh) (rl := rl) (rh := rh) (aP := aP) (aQ := aQ) (aL := aL) (nP := nP) (cP := cP) (nQ := nQ) (cQ := cQ) (nL := nL) (cL := cL) (o := T.o0) w')
  have H2 := Lib.hid (fun w' (up : Up w w') => hasOthers_any (N := N) (bl := bl) (bh := bh) (rl := rl) (rh := rh) (aP := aP) (aQ := aQ) (aL := aL) (nP := nP) (cP := cP) (nQ := nQ) (cQ := cQ) (nL := nL) (cL := cL) (o := T.o0) (I.up up) (J.up up))
  have hN := T.nights_N h1
  have H3 := Lib.hid (fun w' (up : Up w w') => allLok_any (N := N) (bl := bl) (bh := bh) (rl := rl) (rh := rh) (aP := aP) (aQ := aQ) (aL := aL) (nP := nP) (cP := cP) (nQ := nQ) (cQ := cQ) (nL := nL) (cL := cL) (o := T.o0) (show nP ≤ 9223372036854775807 by omega) (show nQ ≤ 9223372036854775807 by omega) (show -1000000 ≤ N ∧ N ≤ 1000000 by omega) (K.up up) 10)
  rw [h1] at H1
  rw [h2] at H2
  rw [hn, hm] at H3
  rw [h3] at H3
  rw [← hn, ← hm] at H3
  clear h1 h2 h3 hN
  clear hn hm hP hQ I J K
  go_enter Try.func55, Try.ntmps55
  go_wp2_with fail
  refine (H1.out _ U).mono ?_
  rintro e w1 ⟨rfl, u1⟩
  have U1 := U.trans u1
  replace k1 := u1.blk k1
  replace k2 := u1.blk k2
  replace k3 := u1.blk k3
  clear u1 U
  go_wp2_with fail
  refine (H2.out _ U1).mono ?_
  rintro e w2 ⟨rfl, u2⟩
  have U2 := U1.trans u2
  replace k1 := u2.blk k1
  replace k2 := u2.blk k2
  replace k3 := u2.blk k3
  clear u2 U1
  go_wp2_with fail
  refine (H3.out _ U2).mono ?_
  rintro e w3 ⟨rfl, u3⟩
  have U3 := U2.trans u3
  replace k1 := u3.blk k1
  replace k2 := u3.blk k2
  replace k3 := u3.blk k3
  clear u3 U2
  have UE := Up.setRow U3 n0 #[.int .i64 0, .int .i64 0, .int .i64 0, .int .i64 0, .int .i64 0, .slice none 0 0, .slice none 0 0, .slice none 0 0, .bool false, .bool false, .bool false, .bool false, .bool false, .bool false, .bool false, .bool false, .bool false, .bool false]
  have c := blk_setRow k2 #[.int .i64 0, .int .i64 0, .int .i64 0, .int .i64 0, .int .i64 0, .slice none 0 0, .slice none 0 0, .slice none 0 0, .bool false, .bool false, .bool false, .bool false, .bool false, .bool false, .bool false, .bool false, .bool false, .bool false]
  have C := Lib.hid c
  clear c n0
  go_wp2_with fail
  exact bodyPost_ret (results_bk rfl _ _ _ _ rfl C.out rfl) rfl ⟨rfl, UE⟩
set_option maxRecDepth 100000 in
set_option maxHeartbeats 2000000 in
theorem newBook_yes {w : World} (I : Sps w (.slice aP nP cP) ps) (J : Sps w (.slice aQ nQ cQ) qs) (K : Lks w (.slice aL nL cL) ls) (h1 : T.nightsOk N bl bh rl rh = true) (h2 : T.othersOk ps qs = true) (h3 : (decide (ls.length ≤ 10) && ls.all (T.lookOk ps.length qs.length N)) = true) : Calls Try.prog 55 #[BoV N bl bh rl rh (.slice aP nP cP) (.slice aQ nQ cQ) (.slice aL nL cL)] w fun e w' => e = .returned (.tuple #[BkV N bl bh rl rh (.slice aP nP cP) (.slice aQ nQ cQ) (.slice aL nL cL) T.o0, .int .i64 0]) ∧ Up w w' := by
  have U := (((Up.refl w).alloc (.cells (BoC N bl bh rl rh (.slice aP nP cP) (.slice aQ nQ cQ) (.slice aL nL cL)) 27)).alloc (.cells #[.int .i64 0, .int .i64 0, .int .i64 0, .int .i64 0, .int .i64 0, .slice none 0 0, .slice none 0 0, .slice none 0 0, .bool false, .bool false, .bool false, .bool false, .bool false, .bool false, .bool false, .bool false, .bool false, .bool false] 81)).alloc (.cells (BkC N bl bh rl rh (.slice aP nP cP) (.slice aQ nQ cQ) (.slice aL nL cL) T.o0) 81)
  have k2 := blk_keep (.cells (BkC N bl bh rl rh (.slice aP nP cP) (.slice aQ nQ cQ) (.slice aL nL cL) T.o0) 81) (blk_new (w.alloc (.cells (BoC N bl bh rl rh (.slice aP nP cP) (.slice aQ nQ cQ) (.slice aL nL cL)) 27)) (.cells #[.int .i64 0, .int .i64 0, .int .i64 0, .int .i64 0, .int .i64 0, .slice none 0 0, .slice none 0 0, .slice none 0 0, .bool false, .bool false, .bool false, .bool false, .bool false, .bool false, .bool false, .bool false, .bool false, .bool false] 81) (w.heap.size + 1) (by simp))
  have k1 := blk_keep (.cells (BkC N bl bh rl rh (.slice aP nP cP) (.slice aQ nQ cQ) (.slice aL nL cL) T.o0) 81) (blk_keep (.cells #[.int .i64 0, .int .i64 0, .int .i64 0, .int .i64 0, .int .i64 0, .slice none 0 0, .slice none 0 0, .slice none 0 0, .bool false, .bool false, .bool false, .bool false, .bool false, .bool false, .bool false, .bool false, .bool false, .bool false] 81) (blk_new w (.cells (BoC N bl bh rl rh (.slice aP nP cP) (.slice aQ nQ cQ) (.slice aL nL cL)) 27) _ rfl))
  have k3 := blk_new ((w.alloc (.cells (BoC N bl bh rl rh (.slice aP nP cP) (.slice aQ nQ cQ) (.slice aL nL cL)) 27)).alloc (.cells #[.int .i64 0, .int .i64 0, .int .i64 0, .int .i64 0, .int .i64 0, .slice none 0 0, .slice none 0 0, .slice none 0 0, .bool false, .bool false, .bool false, .bool false, .bool false, .bool false, .bool false, .bool false, .bool false, .bool false] 81)) (.cells (BkC N bl bh rl rh (.slice aP nP cP) (.slice aQ nQ cQ) (.slice aL nL cL) T.o0) 81) (w.heap.size + 1 + 1) (by simp)
  have hP := I.max
  have hQ := J.max
  have hn := I.len
  have hm := J.len
  have n0 : w.heap.size ≤ w.heap.size + 1 := by omega
  have lt3 := blk_lt k3
  have lt2 := blk_lt k2
  have lt1 := blk_lt k1
  have H1 := Lib.hid (fun w' (_ : Up w w') => hasNights_any (N := N) (bl := bl) (bh := bh) (rl := rl) (rh := rh) (aP := aP) (aQ := aQ) (aL := aL) (nP := nP) (cP := cP) (nQ := nQ) (cQ := cQ) (nL := nL) (cL := cL) (o := T.o0) w')
  have H2 := Lib.hid (fun w' (up : Up w w') => hasOthers_any (N := N) (bl := bl) (bh := bh) (rl := rl) (rh := rh) (aP := aP) (aQ := aQ) (aL := aL) (nP := nP) (cP := cP) (nQ := nQ) (cQ := cQ) (nL := nL) (cL := cL) (o := T.o0) (I.up up) (J.up up))
  have hN := T.nights_N h1
  have H3 := Lib.hid (fun w' (up : Up w w') => allLok_any (N := N) (bl := bl) (bh := bh) (rl := rl) (rh := rh) (aP := aP) (aQ := aQ) (aL := aL) (nP := nP) (cP := cP) (nQ := nQ) (cQ := cQ) (nL := nL) (cL := cL) (o := T.o0) (show nP ≤ 9223372036854775807 by omega) (show nQ ≤ 9223372036854775807 by omega) (show -1000000 ≤ N ∧ N ≤ 1000000 by omega) (K.up up) 10)
  rw [h1] at H1
  rw [h2] at H2
  rw [hn, hm] at H3
  rw [h3] at H3
  rw [← hn, ← hm] at H3
  clear h1 h2 h3 hN
  clear hn hm hP hQ I J K
  go_enter Try.func55, Try.ntmps55
  go_wp2_with fail
  refine (H1.out _ U).mono ?_
  rintro e w1 ⟨rfl, u1⟩
  have U1 := U.trans u1
  replace k1 := u1.blk k1
  replace k2 := u1.blk k2
  replace k3 := u1.blk k3
  clear u1 U
  go_wp2_with fail
  refine (H2.out _ U1).mono ?_
  rintro e w2 ⟨rfl, u2⟩
  have U2 := U1.trans u2
  replace k1 := u2.blk k1
  replace k2 := u2.blk k2
  replace k3 := u2.blk k3
  clear u2 U1
  go_wp2_with fail
  refine (H3.out _ U2).mono ?_
  rintro e w3 ⟨rfl, u3⟩
  have U3 := U2.trans u3
  replace k1 := u3.blk k1
  replace k2 := u3.blk k2
  replace k3 := u3.blk k3
  clear u3 U2
  have UE := Up.setRow U3 n0 (BkC N bl bh rl rh (.slice aP nP cP) (.slice aQ nQ cQ) (.slice aL nL cL) T.o0)
  have c := blk_setRow k2 (BkC N bl bh rl rh (.slice aP nP cP) (.slice aQ nQ cQ) (.slice aL nL cL) T.o0)
  have C := Lib.hid c
  clear c n0
  go_wp2_with fail
  exact bodyPost_ret (results_bk rfl _ _ _ _ rfl C.out rfl) rfl ⟨rfl, UE⟩
theorem newBook_no {w : World} (I : Sps w (.slice aP nP cP) ps) (J : Sps w (.slice aQ nQ cQ) qs) (K : Lks w (.slice aL nL cL) ls) (h : T.valid N bl bh rl rh ps qs ls = false) : Calls Try.prog 55 #[BoV N bl bh rl rh (.slice aP nP cP) (.slice aQ nQ cQ) (.slice aL nL cL)] w fun e w' => e = .returned (.tuple #[BkZ, .int .i64 30]) ∧ Up w w' := by
  unfold T.valid at h
  cases h1 : T.nightsOk N bl bh rl rh with
  | false => exact newBook_no1 I J K h1
  | true =>
    cases h2 : T.othersOk ps qs with
    | false => exact newBook_no2 I J K h1 h2
    | true => exact newBook_no3 I J K h1 h2 (by rw [h1, h2, Bool.true_and, Bool.true_and] at h; exact h)
theorem newBook_ok {w : World} (I : Sps w (.slice aP nP cP) ps) (J : Sps w (.slice aQ nQ cQ) qs) (K : Lks w (.slice aL nL cL) ls) (h : T.valid N bl bh rl rh ps qs ls = true) : Calls Try.prog 55 #[BoV N bl bh rl rh (.slice aP nP cP) (.slice aQ nQ cQ) (.slice aL nL cL)] w fun e w' => e = .returned (.tuple #[BkV N bl bh rl rh (.slice aP nP cP) (.slice aQ nQ cQ) (.slice aL nL cL) T.o0, .int .i64 0]) ∧ Up w w' := by
  unfold T.valid at h
  rw [Bool.and_eq_true, Bool.and_eq_true] at h
  exact newBook_yes I J K h.1 h.2.1 h.2.2
end

end Go.Proofs.Ytlpkheoljbdajaa
