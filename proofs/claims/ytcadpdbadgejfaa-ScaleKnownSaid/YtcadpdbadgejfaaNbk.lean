import Derived.Test.YtcadpdbadgejfaaOfF
import Derived.Test.YtcadpdbadgejfaaNew
/- The contract of newBook, and of Check. -/
namespace Go.Proofs.Ytcadpdbadgejfaa
open Go.RowKit

theorem cell_BOOK {w : World} {b : Nat} {cs : Array Value} (h : mblk w b = some (.cells cs 44 (0, 0))) (j : Nat) : w.cell? ⟨b, j, none⟩ = cs[j]? := cellB h j
attribute [go_sem] cell_BOOK
/-- is a book valid? -/
def S.bookOk (f s j dl dh ticks : Int) (xs : List Int) (ls : List (Int × Int × Int)) : Bool := S.ok f s j dl dh && (inB ticks 1 60 && ((decide ((xs.length : Int) ≤ ticks) && S.keeps f s j 0 xs) && (decide (ls.length ≤ 10) && ls.all (S.lookOk ticks))))
abbrev BZ : Value := BV 0 0 0 0 0 0 (.slice none 0 0) (.slice none 0 0)
abbrev BCZ : Array Value := BC 0 0 0 0 0 0 (.slice none 0 0) (.slice none 0 0)

section
variable {f s j dl dh ticks : Int} {a a' : Option Addr} {n c n' c' : Nat} {xs : List Int} {ls : List (Int × Int × Int)}
set_option maxRecDepth 100000 in
set_option maxHeartbeats 1000000 in
theorem newBook_no0 (w : World) (hr : S.ok f s j dl dh = false) : Calls Try.prog 73 #[BV f s j dl dh ticks (.slice a n c) (.slice a' n' c')] w fun e w' => e = .returned (.tuple #[BZ, .int .i64 40]) ∧ Up w w' := by
  have HN := Lib.hid (fun w => newRule_no w hr)
  have U0 := ((Up.refl w).alloc (.cells (BC f s j dl dh ticks (.slice a n c) (.slice a' n' c')) 44)).alloc (.cells BCZ 104)
  have k0 := blk_keep (.cells BCZ 104) (blk_new w (.cells (BC f s j dl dh ticks (.slice a n c) (.slice a' n' c')) 44) w.heap.size rfl)
  have k1 := blk_new (w.alloc (.cells (BC f s j dl dh ticks (.slice a n c) (.slice a' n' c')) 44)) (.cells BCZ 104) (w.heap.size + 1) (by simp)
  clear hr
  go_enter Try.func73, Try.ntmps73
  go_wp2_with fail
  refine (HN.out _).mono ?_
  rintro e w1 ⟨rfl, u1⟩
  have l0 := u1.blk k0
  have l1 := u1.blk k1
  have U1 := U0.trans u1
  clear u1 k0 k1 U0 HN
  have m1 := blk_keep (.cells #[.int .i64 0, .int .i64 0, .int .i64 0, .int .i64 0, .int .i64 0] 79) l1
  have V2 := U1
  have lt := blk_lt l1
  have zz := frozB l1
  have n0 : w.heap.size ≤ w.heap.size + 1 := by omega
  have UE := (((((((((V2.set (p := ⟨w.heap.size + 1, 0, none⟩) n0 (.int .i64 0)).set (p := ⟨w.heap.size + 1, 1, none⟩) n0 (.int .i64 0)).set (p := ⟨w.heap.size + 1, 2, none⟩) n0 (.int .i64 0)).set (p := ⟨w.heap.size + 1, 3, none⟩) n0 (.int .i64 0)).set (p := ⟨w.heap.size + 1, 4, none⟩) n0 (.int .i64 0)).set (p := ⟨w.heap.size + 1, 5, none⟩) n0 (.int .i64 0)).set (p := ⟨w.heap.size + 1, 6, none⟩) n0 (.slice none 0 0)).set (p := ⟨w.heap.size + 1, 7, none⟩) n0 (.slice none 0 0))).alloc (.cells #[.int .i64 0, .int .i64 0, .int .i64 0, .int .i64 0, .int .i64 0] 79)
  have C := Lib.hid (cellB (blk_keep (.cells #[.int .i64 0, .int .i64 0, .int .i64 0, .int .i64 0, .int .i64 0] 79) (blk_put (blk_put (blk_put (blk_put (blk_put (blk_put (blk_put (blk_put l1 0 (.int .i64 0)) 1 (.int .i64 0)) 2 (.int .i64 0)) 3 (.int .i64 0)) 4 (.int .i64 0)) 5 (.int .i64 0)) 6 (.slice none 0 0)) 7 (.slice none 0 0))))
  have z4 := frozB m1
  clear n0 V2 m1
  go_wp2_with fail
  have cc := C.out
  exact bodyPost_ret (v := .tuple #[BZ, .int .i64 40]) (by simp [results, Try.results73, go_sem, cc]) rfl ⟨rfl, UE⟩
set_option maxRecDepth 100000 in
set_option maxHeartbeats 1000000 in
theorem newBook_no1 (w : World) (hr : S.ok f s j dl dh = true) (ht : inB ticks 1 60 = false) : Calls Try.prog 73 #[BV f s j dl dh ticks (.slice a n c) (.slice a' n' c')] w fun e w' => e = .returned (.tuple #[BZ, .int .i64 40]) ∧ Up w w' := by
  have HN := Lib.hid (fun w => newRule_yes w hr)
  have HW := Lib.hid (fun w => show Calls Try.prog 65 #[.int .i64 ticks, .int .i64 1, .int .i64 60] w fun e w' => e = .returned (.bool false) ∧ w = w' by rw [← ht]; exact within_any ticks 1 60 w)
  have U0 := ((Up.refl w).alloc (.cells (BC f s j dl dh ticks (.slice a n c) (.slice a' n' c')) 44)).alloc (.cells BCZ 104)
  have k0 := blk_keep (.cells BCZ 104) (blk_new w (.cells (BC f s j dl dh ticks (.slice a n c) (.slice a' n' c')) 44) w.heap.size rfl)
  have k1 := blk_new (w.alloc (.cells (BC f s j dl dh ticks (.slice a n c) (.slice a' n' c')) 44)) (.cells BCZ 104) (w.heap.size + 1) (by simp)
  clear hr ht
  go_enter Try.func73, Try.ntmps73
  go_wp2_with fail
  refine (HN.out _).mono ?_
  rintro e w1 ⟨rfl, u1⟩
  have l0 := u1.blk k0
  have l1 := u1.blk k1
  have U1 := U0.trans u1
  clear u1 k0 k1 U0 HN
  obtain ⟨p4, hp4⟩ : ∃ p, w1.heap.size = p := ⟨_, rfl⟩
  obtain ⟨W2, hW2⟩ : ∃ W2, (w1.alloc (.cells #[.int .i64 f, .int .i64 s, .int .i64 j, .int .i64 dl, .int .i64 dh] 79)).alloc (.cells (BC f s j dl dh ticks (.slice a n c) (.slice a' n' c')) 104) = W2 := ⟨_, rfl⟩
  have m0 : mblk W2 w.heap.size = some (.cells (BC f s j dl dh ticks (.slice a n c) (.slice a' n' c')) 44 (0, 0)) := by rw [← hW2]; exact blk_keep _ (blk_keep _ l0)
  have m1 : mblk W2 (w.heap.size + 1) = some (.cells BCZ 104 (0, 0)) := by rw [← hW2]; exact blk_keep _ (blk_keep _ l1)
  have m4 : mblk W2 p4 = some (.cells #[.int .i64 f, .int .i64 s, .int .i64 j, .int .i64 dl, .int .i64 dh] 79 (0, 0)) := by rw [← hW2]; exact blk_keep _ (blk_new _ _ _ hp4.symm)
  have m6 : mblk W2 (p4 + 1) = some (.cells (BC f s j dl dh ticks (.slice a n c) (.slice a' n' c')) 104 (0, 0)) := by rw [← hW2]; exact blk_new _ _ _ (by rw [← hp4]; simp)
  have V2 : Up w W2 := by rw [← hW2]; exact (U1.alloc _).alloc _
  clear U1
  have q0 := blk_lt l0
  have z2 := frozB l1
  have q1 := blk_lt l1
  go_wp2_with fail
  clear hW2 l0 q0 l1 z2 q1 hp4
  refine (HW.out _).mono ?_
  rintro e w2 ⟨rfl, rfl⟩
  clear m0 m4 m6
  have z4 := frozB m1
  have n0 : w.heap.size ≤ w.heap.size + 1 := by omega
  have UE := ((((((((V2.set (p := ⟨w.heap.size + 1, 0, none⟩) n0 (.int .i64 0)).set (p := ⟨w.heap.size + 1, 1, none⟩) n0 (.int .i64 0)).set (p := ⟨w.heap.size + 1, 2, none⟩) n0 (.int .i64 0)).set (p := ⟨w.heap.size + 1, 3, none⟩) n0 (.int .i64 0)).set (p := ⟨w.heap.size + 1, 4, none⟩) n0 (.int .i64 0)).set (p := ⟨w.heap.size + 1, 5, none⟩) n0 (.int .i64 0)).set (p := ⟨w.heap.size + 1, 6, none⟩) n0 (.slice none 0 0)).set (p := ⟨w.heap.size + 1, 7, none⟩) n0 (.slice none 0 0))
  have C := Lib.hid (cellB (blk_put (blk_put (blk_put (blk_put (blk_put (blk_put (blk_put (blk_put m1 0 (.int .i64 0)) 1 (.int .i64 0)) 2 (.int .i64 0)) 3 (.int .i64 0)) 4 (.int .i64 0)) 5 (.int .i64 0)) 6 (.slice none 0 0)) 7 (.slice none 0 0)))
  clear n0 V2
  go_wp2_with fail
  have cc := C.out
  exact bodyPost_ret (v := .tuple #[BZ, .int .i64 40]) (by simp [results, Try.results73, go_sem, cc]) rfl ⟨rfl, UE⟩
set_option maxRecDepth 100000 in
set_option maxHeartbeats 1000000 in
theorem newBook_no2 {w : World} (I : Ints w (.slice a n c) xs) (hr : S.ok f s j dl dh = true) (ht : inB ticks 1 60 = true) (hk : (decide ((xs.length : Int) ≤ ticks) && S.keeps f s j 0 xs) = false) : Calls Try.prog 73 #[BV f s j dl dh ticks (.slice a n c) (.slice a' n' c')] w fun e w' => e = .returned (.tuple #[BZ, .int .i64 40]) ∧ Up w w' := by
  have HN := Lib.hid (fun w => newRule_yes w hr)
  have HW := Lib.hid (fun w => show Calls Try.prog 65 #[.int .i64 ticks, .int .i64 1, .int .i64 60] w fun e w' => e = .returned (.bool true) ∧ w = w' by rw [← ht]; exact within_any ticks 1 60 w)
  have HK := Lib.hid (fun w' (u : Up w w') => show Calls Try.prog 70 #[RV f s j dl dh, .slice a n c, .int .i64 ticks] w' fun e w'' => e = .returned (.bool false) ∧ Up w' w'' by rw [← hk]; exact keeps_any hr (I.up u) ticks)
  have U0 := ((Up.refl w).alloc (.cells (BC f s j dl dh ticks (.slice a n c) (.slice a' n' c')) 44)).alloc (.cells BCZ 104)
  have k0 := blk_keep (.cells BCZ 104) (blk_new w (.cells (BC f s j dl dh ticks (.slice a n c) (.slice a' n' c')) 44) w.heap.size rfl)
  have k1 := blk_new (w.alloc (.cells (BC f s j dl dh ticks (.slice a n c) (.slice a' n' c')) 44)) (.cells BCZ 104) (w.heap.size + 1) (by simp)
  clear hr ht hk I
  go_enter Try.func73, Try.ntmps73
  go_wp2_with fail
  refine (HN.out _).mono ?_
  rintro e w1 ⟨rfl, u1⟩
  have l0 := u1.blk k0
  have l1 := u1.blk k1
  have U1 := U0.trans u1
  clear u1 k0 k1 U0 HN
  obtain ⟨p4, hp4⟩ : ∃ p, w1.heap.size = p := ⟨_, rfl⟩
  obtain ⟨W2, hW2⟩ : ∃ W2, (w1.alloc (.cells #[.int .i64 f, .int .i64 s, .int .i64 j, .int .i64 dl, .int .i64 dh] 79)).alloc (.cells (BC f s j dl dh ticks (.slice a n c) (.slice a' n' c')) 104) = W2 := ⟨_, rfl⟩
  have m0 : mblk W2 w.heap.size = some (.cells (BC f s j dl dh ticks (.slice a n c) (.slice a' n' c')) 44 (0, 0)) := by rw [← hW2]; exact blk_keep _ (blk_keep _ l0)
  have m1 : mblk W2 (w.heap.size + 1) = some (.cells BCZ 104 (0, 0)) := by rw [← hW2]; exact blk_keep _ (blk_keep _ l1)
  have m4 : mblk W2 p4 = some (.cells #[.int .i64 f, .int .i64 s, .int .i64 j, .int .i64 dl, .int .i64 dh] 79 (0, 0)) := by rw [← hW2]; exact blk_keep _ (blk_new _ _ _ hp4.symm)
  have m6 : mblk W2 (p4 + 1) = some (.cells (BC f s j dl dh ticks (.slice a n c) (.slice a' n' c')) 104 (0, 0)) := by rw [← hW2]; exact blk_new _ _ _ (by rw [← hp4]; simp)
  have V2 : Up w W2 := by rw [← hW2]; exact (U1.alloc _).alloc _
  clear U1
  have q0 := blk_lt l0
  have z2 := frozB l1
  have q1 := blk_lt l1
  go_wp2_with fail
  clear hW2 l0 q0 l1 z2 q1 hp4
  refine (HW.out _).mono ?_
  rintro e w2 ⟨rfl, rfl⟩
  go_wp2_with fail
  refine (HK.out _ V2).mono ?_
  rintro e w3 ⟨rfl, u3⟩
  replace m0 := u3.blk m0
  replace m1 := u3.blk m1
  replace m6 := u3.blk m6
  replace V2 := V2.trans u3
  clear u3 m4 HK HW
  clear m0 m6
  have z4 := frozB m1
  have n0 : w.heap.size ≤ w.heap.size + 1 := by omega
  have UE := ((((((((V2.set (p := ⟨w.heap.size + 1, 0, none⟩) n0 (.int .i64 0)).set (p := ⟨w.heap.size + 1, 1, none⟩) n0 (.int .i64 0)).set (p := ⟨w.heap.size + 1, 2, none⟩) n0 (.int .i64 0)).set (p := ⟨w.heap.size + 1, 3, none⟩) n0 (.int .i64 0)).set (p := ⟨w.heap.size + 1, 4, none⟩) n0 (.int .i64 0)).set (p := ⟨w.heap.size + 1, 5, none⟩) n0 (.int .i64 0)).set (p := ⟨w.heap.size + 1, 6, none⟩) n0 (.slice none 0 0)).set (p := ⟨w.heap.size + 1, 7, none⟩) n0 (.slice none 0 0))
  have C := Lib.hid (cellB (blk_put (blk_put (blk_put (blk_put (blk_put (blk_put (blk_put (blk_put m1 0 (.int .i64 0)) 1 (.int .i64 0)) 2 (.int .i64 0)) 3 (.int .i64 0)) 4 (.int .i64 0)) 5 (.int .i64 0)) 6 (.slice none 0 0)) 7 (.slice none 0 0)))
  clear n0 V2
  go_wp2_with fail
  have cc := C.out
  exact bodyPost_ret (v := .tuple #[BZ, .int .i64 40]) (by simp [results, Try.results73, go_sem, cc]) rfl ⟨rfl, UE⟩
set_option maxRecDepth 100000 in
set_option maxHeartbeats 1000000 in
theorem newBook_no3 {w : World} (I : Ints w (.slice a n c) xs) (I' : Lks w (.slice a' n' c') ls) (hr : S.ok f s j dl dh = true) (ht : inB ticks 1 60 = true) (hk : (decide ((xs.length : Int) ≤ ticks) && S.keeps f s j 0 xs) = true) (hl : (decide (ls.length ≤ 10) && ls.all (S.lookOk ticks)) = false) : Calls Try.prog 73 #[BV f s j dl dh ticks (.slice a n c) (.slice a' n' c')] w fun e w' => e = .returned (.tuple #[BZ, .int .i64 40]) ∧ Up w w' := by
  have HN := Lib.hid (fun w => newRule_yes w hr)
  have HW := Lib.hid (fun w => show Calls Try.prog 65 #[.int .i64 ticks, .int .i64 1, .int .i64 60] w fun e w' => e = .returned (.bool true) ∧ w = w' by rw [← ht]; exact within_any ticks 1 60 w)
  have HK := Lib.hid (fun w' (u : Up w w') => show Calls Try.prog 70 #[RV f s j dl dh, .slice a n c, .int .i64 ticks] w' fun e w'' => e = .returned (.bool true) ∧ Up w' w'' by rw [← hk]; exact keeps_any hr (I.up u) ticks)
  have HA := Lib.hid (fun w' (u : Up w w') => show Calls Try.prog 91 #[.slice a' n' c', .int .i64 10, .func (.func 92) #[BV f s j dl dh ticks (.slice a n c) (.slice a' n' c')] #[]] w' fun e w'' => e = .returned (.bool false) ∧ Up w' w'' by rw [← hl]; exact areAll_any (I'.up u))
  have U0 := ((Up.refl w).alloc (.cells (BC f s j dl dh ticks (.slice a n c) (.slice a' n' c')) 44)).alloc (.cells BCZ 104)
  have k0 := blk_keep (.cells BCZ 104) (blk_new w (.cells (BC f s j dl dh ticks (.slice a n c) (.slice a' n' c')) 44) w.heap.size rfl)
  have k1 := blk_new (w.alloc (.cells (BC f s j dl dh ticks (.slice a n c) (.slice a' n' c')) 44)) (.cells BCZ 104) (w.heap.size + 1) (by simp)
  clear hr ht hk I hl I'
  go_enter Try.func73, Try.ntmps73
  go_wp2_with fail
  refine (HN.out _).mono ?_
  rintro e w1 ⟨rfl, u1⟩
  have l0 := u1.blk k0
  have l1 := u1.blk k1
  have U1 := U0.trans u1
  clear u1 k0 k1 U0 HN
  obtain ⟨p4, hp4⟩ : ∃ p, w1.heap.size = p := ⟨_, rfl⟩
  obtain ⟨W2, hW2⟩ : ∃ W2, (w1.alloc (.cells #[.int .i64 f, .int .i64 s, .int .i64 j, .int .i64 dl, .int .i64 dh] 79)).alloc (.cells (BC f s j dl dh ticks (.slice a n c) (.slice a' n' c')) 104) = W2 := ⟨_, rfl⟩
  have m0 : mblk W2 w.heap.size = some (.cells (BC f s j dl dh ticks (.slice a n c) (.slice a' n' c')) 44 (0, 0)) := by rw [← hW2]; exact blk_keep _ (blk_keep _ l0)
  have m1 : mblk W2 (w.heap.size + 1) = some (.cells BCZ 104 (0, 0)) := by rw [← hW2]; exact blk_keep _ (blk_keep _ l1)
  have m4 : mblk W2 p4 = some (.cells #[.int .i64 f, .int .i64 s, .int .i64 j, .int .i64 dl, .int .i64 dh] 79 (0, 0)) := by rw [← hW2]; exact blk_keep _ (blk_new _ _ _ hp4.symm)
  have m6 : mblk W2 (p4 + 1) = some (.cells (BC f s j dl dh ticks (.slice a n c) (.slice a' n' c')) 104 (0, 0)) := by rw [← hW2]; exact blk_new _ _ _ (by rw [← hp4]; simp)
  have V2 : Up w W2 := by rw [← hW2]; exact (U1.alloc _).alloc _
  clear U1
  have q0 := blk_lt l0
  have z2 := frozB l1
  have q1 := blk_lt l1
  go_wp2_with fail
  clear hW2 l0 q0 l1 z2 q1 hp4
  refine (HW.out _).mono ?_
  rintro e w2 ⟨rfl, rfl⟩
  go_wp2_with fail
  refine (HK.out _ V2).mono ?_
  rintro e w3 ⟨rfl, u3⟩
  replace m0 := u3.blk m0
  replace m1 := u3.blk m1
  replace m6 := u3.blk m6
  replace V2 := V2.trans u3
  clear u3 m4 HK HW
  go_wp2_with fail
  refine (HA.out _ V2).mono ?_
  rintro e w4 ⟨rfl, u4⟩
  replace m1 := u4.blk m1
  replace m6 := u4.blk m6
  replace V2 := V2.trans u4
  clear u4 m0 HA
  clear m6
  have z4 := frozB m1
  have n0 : w.heap.size ≤ w.heap.size + 1 := by omega
  have UE := ((((((((V2.set (p := ⟨w.heap.size + 1, 0, none⟩) n0 (.int .i64 0)).set (p := ⟨w.heap.size + 1, 1, none⟩) n0 (.int .i64 0)).set (p := ⟨w.heap.size + 1, 2, none⟩) n0 (.int .i64 0)).set (p := ⟨w.heap.size + 1, 3, none⟩) n0 (.int .i64 0)).set (p := ⟨w.heap.size + 1, 4, none⟩) n0 (.int .i64 0)).set (p := ⟨w.heap.size + 1, 5, none⟩) n0 (.int .i64 0)).set (p := ⟨w.heap.size + 1, 6, none⟩) n0 (.slice none 0 0)).set (p := ⟨w.heap.size + 1, 7, none⟩) n0 (.slice none 0 0))
  have C := Lib.hid (cellB (blk_put (blk_put (blk_put (blk_put (blk_put (blk_put (blk_put (blk_put m1 0 (.int .i64 0)) 1 (.int .i64 0)) 2 (.int .i64 0)) 3 (.int .i64 0)) 4 (.int .i64 0)) 5 (.int .i64 0)) 6 (.slice none 0 0)) 7 (.slice none 0 0)))
  clear n0 V2
  go_wp2_with fail
  have cc := C.out
  exact bodyPost_ret (v := .tuple #[BZ, .int .i64 40]) (by simp [results, Try.results73, go_sem, cc]) rfl ⟨rfl, UE⟩
set_option maxRecDepth 100000 in
set_option maxHeartbeats 1000000 in
theorem newBook_yes4 {w : World} (I : Ints w (.slice a n c) xs) (I' : Lks w (.slice a' n' c') ls) (hr : S.ok f s j dl dh = true) (ht : inB ticks 1 60 = true) (hk : (decide ((xs.length : Int) ≤ ticks) && S.keeps f s j 0 xs) = true) (hl : (decide (ls.length ≤ 10) && ls.all (S.lookOk ticks)) = true) : Calls Try.prog 73 #[BV f s j dl dh ticks (.slice a n c) (.slice a' n' c')] w fun e w' => e = .returned (.tuple #[BV f s j dl dh ticks (.slice a n c) (.slice a' n' c'), .int .i64 0]) ∧ Up w w' := by
  have HN := Lib.hid (fun w => newRule_yes w hr)
  have HW := Lib.hid (fun w => show Calls Try.prog 65 #[.int .i64 ticks, .int .i64 1, .int .i64 60] w fun e w' => e = .returned (.bool true) ∧ w = w' by rw [← ht]; exact within_any ticks 1 60 w)
  have HK := Lib.hid (fun w' (u : Up w w') => show Calls Try.prog 70 #[RV f s j dl dh, .slice a n c, .int .i64 ticks] w' fun e w'' => e = .returned (.bool true) ∧ Up w' w'' by rw [← hk]; exact keeps_any hr (I.up u) ticks)
  have HA := Lib.hid (fun w' (u : Up w w') => show Calls Try.prog 91 #[.slice a' n' c', .int .i64 10, .func (.func 92) #[BV f s j dl dh ticks (.slice a n c) (.slice a' n' c')] #[]] w' fun e w'' => e = .returned (.bool true) ∧ Up w' w'' by rw [← hl]; exact areAll_any (I'.up u))
  have U0 := ((Up.refl w).alloc (.cells (BC f s j dl dh ticks (.slice a n c) (.slice a' n' c')) 44)).alloc (.cells BCZ 104)
  have k0 := blk_keep (.cells BCZ 104) (blk_new w (.cells (BC f s j dl dh ticks (.slice a n c) (.slice a' n' c')) 44) w.heap.size rfl)
  have k1 := blk_new (w.alloc (.cells (BC f s j dl dh ticks (.slice a n c) (.slice a' n' c')) 44)) (.cells BCZ 104) (w.heap.size + 1) (by simp)
  clear hr ht hk I hl I'
  go_enter Try.func73, Try.ntmps73
  go_wp2_with fail
  refine (HN.out _).mono ?_
  rintro e w1 ⟨rfl, u1⟩
  have l0 := u1.blk k0
  have l1 := u1.blk k1
  have U1 := U0.trans u1
  clear u1 k0 k1 U0 HN
  obtain ⟨p4, hp4⟩ : ∃ p, w1.heap.size = p := ⟨_, rfl⟩
  obtain ⟨W2, hW2⟩ : ∃ W2, (w1.alloc (.cells #[.int .i64 f, .int .i64 s, .int .i64 j, .int .i64 dl, .int .i64 dh] 79)).alloc (.cells (BC f s j dl dh ticks (.slice a n c) (.slice a' n' c')) 104) = W2 := ⟨_, rfl⟩
  have m0 : mblk W2 w.heap.size = some (.cells (BC f s j dl dh ticks (.slice a n c) (.slice a' n' c')) 44 (0, 0)) := by rw [← hW2]; exact blk_keep _ (blk_keep _ l0)
  have m1 : mblk W2 (w.heap.size + 1) = some (.cells BCZ 104 (0, 0)) := by rw [← hW2]; exact blk_keep _ (blk_keep _ l1)
  have m4 : mblk W2 p4 = some (.cells #[.int .i64 f, .int .i64 s, .int .i64 j, .int .i64 dl, .int .i64 dh] 79 (0, 0)) := by rw [← hW2]; exact blk_keep _ (blk_new _ _ _ hp4.symm)
  have m6 : mblk W2 (p4 + 1) = some (.cells (BC f s j dl dh ticks (.slice a n c) (.slice a' n' c')) 104 (0, 0)) := by rw [← hW2]; exact blk_new _ _ _ (by rw [← hp4]; simp)
  have V2 : Up w W2 := by rw [← hW2]; exact (U1.alloc _).alloc _
  clear U1
  have q0 := blk_lt l0
  have z2 := frozB l1
  have q1 := blk_lt l1
  go_wp2_with fail
  clear hW2 l0 q0 l1 z2 q1 hp4
  refine (HW.out _).mono ?_
  rintro e w2 ⟨rfl, rfl⟩
  go_wp2_with fail
  refine (HK.out _ V2).mono ?_
  rintro e w3 ⟨rfl, u3⟩
  replace m0 := u3.blk m0
  replace m1 := u3.blk m1
  replace m6 := u3.blk m6
  replace V2 := V2.trans u3
  clear u3 m4 HK HW
  go_wp2_with fail
  refine (HA.out _ V2).mono ?_
  rintro e w4 ⟨rfl, u4⟩
  replace m1 := u4.blk m1
  replace m6 := u4.blk m6
  replace V2 := V2.trans u4
  clear u4 m0 HA
  have z4 := frozB m1
  have n0 : w.heap.size ≤ w.heap.size + 1 := by omega
  have UE := ((((((((V2.set (p := ⟨w.heap.size + 1, 0, none⟩) n0 (.int .i64 f)).set (p := ⟨w.heap.size + 1, 1, none⟩) n0 (.int .i64 s)).set (p := ⟨w.heap.size + 1, 2, none⟩) n0 (.int .i64 j)).set (p := ⟨w.heap.size + 1, 3, none⟩) n0 (.int .i64 dl)).set (p := ⟨w.heap.size + 1, 4, none⟩) n0 (.int .i64 dh)).set (p := ⟨w.heap.size + 1, 5, none⟩) n0 (.int .i64 ticks)).set (p := ⟨w.heap.size + 1, 6, none⟩) n0 (.slice a n c)).set (p := ⟨w.heap.size + 1, 7, none⟩) n0 (.slice a' n' c'))
  have C := Lib.hid (cellB (blk_put (blk_put (blk_put (blk_put (blk_put (blk_put (blk_put (blk_put m1 0 (.int .i64 f)) 1 (.int .i64 s)) 2 (.int .i64 j)) 3 (.int .i64 dl)) 4 (.int .i64 dh)) 5 (.int .i64 ticks)) 6 (.slice a n c)) 7 (.slice a' n' c')))
  clear n0 V2
  go_wp2_with fail
  have cc := C.out
  exact bodyPost_ret (v := .tuple #[BV f s j dl dh ticks (.slice a n c) (.slice a' n' c'), .int .i64 0]) (by simp [results, Try.results73, go_sem, cc]) rfl ⟨rfl, UE⟩
theorem newBook_yes {w : World} (I : Ints w (.slice a n c) xs) (I' : Lks w (.slice a' n' c') ls) (h : S.bookOk f s j dl dh ticks xs ls = true) : Calls Try.prog 73 #[BV f s j dl dh ticks (.slice a n c) (.slice a' n' c')] w fun e w' => e = .returned (.tuple #[BV f s j dl dh ticks (.slice a n c) (.slice a' n' c'), .int .i64 0]) ∧ Up w w' := by
  unfold S.bookOk at h
  rw [Bool.and_eq_true, Bool.and_eq_true, Bool.and_eq_true] at h
  exact newBook_yes4 I I' h.1 h.2.1 h.2.2.1 h.2.2.2
theorem newBook_no {w : World} (I : Ints w (.slice a n c) xs) (I' : Lks w (.slice a' n' c') ls) (h : S.bookOk f s j dl dh ticks xs ls = false) : Calls Try.prog 73 #[BV f s j dl dh ticks (.slice a n c) (.slice a' n' c')] w fun e w' => e = .returned (.tuple #[BZ, .int .i64 40]) ∧ Up w w' := by
  cases hr : S.ok f s j dl dh
  · exact newBook_no0 w hr
  cases ht : inB ticks 1 60
  · exact newBook_no1 w hr ht
  cases hk : (decide ((xs.length : Int) ≤ ticks) && S.keeps f s j 0 xs)
  · exact newBook_no2 I hr ht hk
  cases hl : (decide (ls.length ≤ 10) && ls.all (S.lookOk ticks))
  · exact newBook_no3 I I' hr ht hk hl
  · unfold S.bookOk at h
    rw [hr, ht, hk, hl] at h
    cases h
set_option maxRecDepth 100000 in
theorem Check_any {w : World} (I : Ints w (.slice a n c) xs) (I' : Lks w (.slice a' n' c') ls) : Calls Try.prog 29 #[BV f s j dl dh ticks (.slice a n c) (.slice a' n' c')] w fun e w' => e = .returned (.int .i64 (if S.bookOk f s j dl dh ticks xs ls then 0 else 40)) ∧ Up w w' := by
  have U := (Up.refl w).alloc (.cells (BC f s j dl dh ticks (.slice a n c) (.slice a' n' c')) 44)
  cases hb : S.bookOk f s j dl dh ticks xs ls with
  | true =>
    have H := Lib.hid (newBook_yes (I.up U) (I'.up U) hb)
    rw [if_pos rfl]
    clear I I' hb
    go_enter Try.func29, Try.ntmps29
    go_wp2_with fail
    refine H.out.mono ?_
    rintro e w1 ⟨rfl, u1⟩
    go_wp2
    go_ret
    exact ⟨rfl, (U.trans u1).alloc _⟩
  | false =>
    have H := Lib.hid (newBook_no (I.up U) (I'.up U) hb)
    rw [if_neg (by simp)]
    clear I I' hb
    go_enter Try.func29, Try.ntmps29
    go_wp2_with fail
    refine H.out.mono ?_
    rintro e w1 ⟨rfl, u1⟩
    go_wp2
    go_ret
    exact ⟨rfl, (U.trans u1).alloc _⟩
end

end Go.Proofs.Ytcadpdbadgejfaa
