import Derived.Test.YtfmnfingliflkaaRefE
import Derived.Test.YtfmnfingliflkaaRefG
/- The contract of the reference's CheckTown. -/
namespace Go.Proofs.Ytfmnfingliflkaa
open Go.RowKit
attribute [local go_sem] cell_CAL cell_TWN

/-- are the changes of a town as they may be, after a tick? -/
def D.ctOk (T : Int) : Int → List (Int × Int) → Bool
  | _, [] => true
  | l, z :: M => (decide (l < z.1) && (inB z.1 0 (T - 1) && inB z.2 (-1440) 1440)) && D.ctOk T z.1 M
theorem D.ctOk_is (T : Int) (M : List (Int × Int)) (l : Int) : D.ctOk T l M = (D.aheads M && D.incr (fun t => inB t 0 (T - 1)) l (M.map (·.1))) := by
  induction M generalizing l with
  | nil => rfl
  | cons z M ih =>
    rw [D.ctOk, ih]
    simp only [D.aheads, List.all_cons, List.map_cons, D.incr]
    cases decide (l < z.1) <;> cases inB z.1 0 (T - 1) <;> cases inB z.2 (-1440) 1440 <;> simp
theorem D.ct_drop {M : List (Int × Int)} {k : Nat} (h : k < M.length) : M.drop k = M.getD k (0, 0) :: M.drop (k + 1) := by
  rw [List.drop_eq_getElem_cons h, List.getD_eq_getElem?_getD, List.getElem?_eq_getElem h]
  rfl
theorem cell_CHG {w : World} {b : Nat} {cs : Array Value} (h : mblk w b = some (.cells cs 82 (0, 0))) (j : Nat) : w.cell? ⟨b, j, none⟩ = cs[j]? := cellB h j
attribute [local go_sem] cell_CHG

section
variable {h m s d : Int} {N : Nat} {a : Option Addr} {n c : Nat} {L : List (Int × Bool)} {ah : Int} {a' : Option Addr} {n' c' : Nat} {M : List (Int × Int)} {w : World}
set_option maxRecDepth 100000 in
set_option maxHeartbeats 3000000 in
theorem r_CheckTown_yes (A : CalArg w a n c L) (hn : n ≤ 17592186044000) (B : TownArg w a' n' c' M) (hv : D.valid h m s N L = true) :
    Calls Try.prog 34 #[.agg #[.int .i64 h, .int .i64 m, .int .i64 s, .int .i64 N, .slice a n c], .agg #[.int .i64 ah, .slice a' n' c']] w fun e w' => e = .returned (.int .i64 (if D.townOk (D.beg h m s (D.deeds L L.length) N) ah M = true then 0 else 12)) ∧ Up w w' := by
  have U0 := ((Up.refl w).alloc (.cells #[.int .i64 h, .int .i64 m, .int .i64 s, .int .i64 N, .slice a n c] 24)).alloc (.cells #[.int .i64 ah, .slice a' n' c'] 44)
  have K := Lib.hid (r_Check_yes (h := h) (m := m) (s := s) (d := N) (c := c) (A.up U0) hn hv)
  have HT := Lib.hid (fun t w' (u : Up w w') => r_isTick_any (c := c) (A.up u) hv t)
  have KL := Lib.hid (l_Lies_any ah (-1440) 1440)
  have KZ := Lib.hid (fun z => l_Lies_any z (-1440) 1440)
  have hl := B.len
  have hmx := B.max
  have HB := Lib.hid (fun w' (u : Up w w') => (B.up u).mem)
  generalize D.beg h m s (D.deeds L L.length) N = T at *
  have c0 : mblk ((w.alloc (.cells #[.int .i64 h, .int .i64 m, .int .i64 s, .int .i64 N, .slice a n c] 24)).alloc (.cells #[.int .i64 ah, .slice a' n' c'] 44)) w.heap.size = some (.cells #[.int .i64 h, .int .i64 m, .int .i64 s, .int .i64 N, .slice a n c] 24 (0, 0)) := blk_keep _ (blk_new _ _ _ rfl)
  have t0 : mblk ((w.alloc (.cells #[.int .i64 h, .int .i64 m, .int .i64 s, .int .i64 N, .slice a n c] 24)).alloc (.cells #[.int .i64 ah, .slice a' n' c'] 44)) (w.heap.size + 1) = some (.cells #[.int .i64 ah, .slice a' n' c'] 44 (0, 0)) := blk_new _ _ _ (by simp)
  cases b1 : inB ah (-1440) 1440
  · have e : D.townOk T ah M = false := by simp [D.townOk, b1]
    rw [e, if_neg (by simp)]
    rw [b1] at KL
    clear A B hv e b1 hl
    go_enter Try.func34, Try.ntmps34
    go_wp2_with fail
    refine K.out.mono ?_
    rintro e w1 ⟨rfl, u1⟩
    have U1 := U0.trans u1
    have f1 := cellB (u1.blk t0)
    go_wp2_with fail
    refine (KL.out _).mono ?_
    rintro e w2 ⟨rfl, rfl⟩
    go_wp2
    go_loopw [6] (fun o wr => o = .bool false ∧ Up w wr) (fun _ _ => 0)
    case atStart => exact ⟨rfl, U1⟩
    case round =>
      obtain ⟨rfl, U⟩ := hrel
      go_wp2
      go_ret
      exact ⟨rfl, U⟩
  by_cases b2 : n' ≤ 6
  · have e : D.townOk T ah M = D.ctOk T 0 M := by
      rw [D.ctOk_is]
      simp only [D.townOk, b1, Bool.true_and]
      rw [decide_eq_true (by omega), Bool.true_and]
    have n6 : ((n' : Int) ≤ 6) := by omega
    rw [e]
    obtain ⟨R, hR⟩ : ∃ R : Int, (if D.ctOk T 0 M = true then 0 else 12) = R := ⟨_, rfl⟩
    rw [hR]
    have HR := Lib.hid hR
    clear hR
    rw [b1] at KL
    have HN := Lib.hid hl
    clear A B hv e b1 hl
    go_enter Try.func34, Try.ntmps34
    go_wp2_with fail
    refine K.out.mono ?_
    rintro e w1 ⟨rfl, u1⟩
    have U1 := U0.trans u1
    have c1 := u1.blk c0
    have t1 := u1.blk t0
    have f1 := cellB t1
    clear u1 U0 c0 t0
    go_wp2_with fail
    refine (KL.out _).mono ?_
    rintro e w2 ⟨rfl, rfl⟩
    go_wp2_with fail
    go_loopw [6, 7, 8] (fun o lv i wr => ∃ (j : Nat) (l : Int) (ok : Bool), j ≤ n' ∧ o = .bool ok ∧ lv = .int .i64 l ∧ i = .int .i64 j ∧ Hid (D.ctOk T 0 M = (ok && D.ctOk T l (M.drop j))) ∧ mblk wr w.heap.size = some (.cells #[.int .i64 h, .int .i64 m, .int .i64 s, .int .i64 N, .slice a n c] 24 (0, 0)) ∧ mblk wr (w.heap.size + 1) = some (.cells #[.int .i64 ah, .slice a' n' c'] 44 (0, 0)) ∧ Up w wr) (fun _ _ i _ => n' - (intOf i).toNat)
    case atStart => exact ⟨0, 0, true, Nat.zero_le _, rfl, rfl, rfl, by simp [Hid], c1, t1, U1⟩
    case round =>
      clear c1 t1 U1 f1
      obtain ⟨j, l, ok, hj, rfl, rfl, rfl, hC, cj, tj, Uj⟩ := hrel
      have ftj := cellB tj
      have fcj := cellB cj
      have lt1 := blk_lt tj
      cases ok
      · have h3 : Hid (R = 12) := by have q : D.ctOk T 0 M = false := hC.out; show R = 12; rw [← HR.out, q]; rfl
        clear hC HB HT KZ HR
        go_wp2
        go_ret
        exact ⟨by rw [h3.out]; rfl, Uj⟩
      by_cases hlt : j < n'
      · obtain ⟨b, off, rfl, hD⟩ := HB.out _ Uj (by omega)
        have y1 := hD.tick j (by rw [← HN.out]; exact hlt)
        have y2 := hD.ahead j (by rw [← HN.out]; exact hlt)
        have y3 := hD.lt
        have st := D.ct_drop (M := M) (k := j) (by rw [← HN.out]; exact hlt)
        generalize M.getD j (0, 0) = z at *
        obtain ⟨z1, z2⟩ := z
        simp only at y1 y2
        have hC1 := hC.out
        rw [st, D.ctOk] at hC1
        have HTz := Lib.hid (HT.out z1)
        have KZz := Lib.hid (KZ.out z2)
        have hlt' : ((j : Int) < (n' : Int)) := by omega
        clear hD hC st HT KZ HR HB
        by_cases g : l < z1
        · have e5 : decide (l < z1) = true := by simp [g]
          rw [e5] at hC1
          cases g2 : inB z1 0 (T - 1)
          · rw [g2] at HTz hC1
            have h3 : Hid (D.ctOk T 0 M = (false && D.ctOk T z1 (M.drop (j + 1)))) := by show D.ctOk T 0 M = _; rw [hC1]; simp
            clear hC1 g2 e5 KZz
            go_wp2_with fail
            obtain ⟨W1, hW1⟩ : ∃ W1, wr.alloc (.cells #[.int .i64 z1, .int .i64 z2] 82) = W1 := ⟨_, rfl⟩
            obtain ⟨x, hx⟩ : ∃ x, wr.heap.size = x := ⟨_, rfl⟩
            have x1 : mblk W1 x = some (.cells #[.int .i64 z1, .int .i64 z2] 82 (0, 0)) := by rw [← hW1]; exact blk_new _ _ _ hx.symm
            have c1 : mblk W1 w.heap.size = some (.cells #[.int .i64 h, .int .i64 m, .int .i64 s, .int .i64 N, .slice a n c] 24 (0, 0)) := by rw [← hW1]; exact blk_keep _ cj
            have t1 : mblk W1 (w.heap.size + 1) = some (.cells #[.int .i64 ah, .slice (some ⟨b, off, none⟩) n' c'] 44 (0, 0)) := by rw [← hW1]; exact blk_keep _ tj
            have U1 : Up w W1 := by rw [← hW1]; exact Uj.alloc _
            rw [hx, hW1]
            clear hW1 hx cj tj Uj ftj fcj lt1
            refine (HTz.out _ U1).mono ?_
            rintro e w5 ⟨rfl, u5⟩
            have U5 := U1.trans u5
            have c5 := u5.blk c1
            have t5 := u5.blk t1
            have x5 := u5.blk x1
            have fx5 := cellB x5
            clear u5 U1 c1 t1 x1
            go_wp2
            go_roundw
            case rel => exact ⟨j + 1, z1, false, by omega, rfl, rfl, by go_num, h3, c5, t5, U5⟩
            case measure => simp [intOf]; omega
          · rw [g2] at HTz hC1
            obtain ⟨o2, ho2⟩ : ∃ o2, inB z2 (-1440) 1440 = o2 := ⟨_, rfl⟩
            rw [ho2] at KZz hC1
            have h3 : Hid (D.ctOk T 0 M = (o2 && D.ctOk T z1 (M.drop (j + 1)))) := by show D.ctOk T 0 M = _; rw [hC1]; simp
            clear hC1 g2 e5 ho2
            go_wp2_with fail
            obtain ⟨W1, hW1⟩ : ∃ W1, wr.alloc (.cells #[.int .i64 z1, .int .i64 z2] 82) = W1 := ⟨_, rfl⟩
            obtain ⟨x, hx⟩ : ∃ x, wr.heap.size = x := ⟨_, rfl⟩
            have x1 : mblk W1 x = some (.cells #[.int .i64 z1, .int .i64 z2] 82 (0, 0)) := by rw [← hW1]; exact blk_new _ _ _ hx.symm
            have c1 : mblk W1 w.heap.size = some (.cells #[.int .i64 h, .int .i64 m, .int .i64 s, .int .i64 N, .slice a n c] 24 (0, 0)) := by rw [← hW1]; exact blk_keep _ cj
            have t1 : mblk W1 (w.heap.size + 1) = some (.cells #[.int .i64 ah, .slice (some ⟨b, off, none⟩) n' c'] 44 (0, 0)) := by rw [← hW1]; exact blk_keep _ tj
            have U1 : Up w W1 := by rw [← hW1]; exact Uj.alloc _
            rw [hx, hW1]
            clear hW1 hx cj tj Uj ftj fcj lt1
            refine (HTz.out _ U1).mono ?_
            rintro e w5 ⟨rfl, u5⟩
            have U5 := U1.trans u5
            have c5 := u5.blk c1
            have t5 := u5.blk t1
            have x5 := u5.blk x1
            have fx5 := cellB x5
            clear u5 U1 c1 t1 x1
            go_wp2_with fail
            refine (KZz.out _).mono ?_
            rintro e w6 ⟨rfl, rfl⟩
            go_wp2
            go_roundw
            case rel => exact ⟨j + 1, z1, o2, by omega, rfl, rfl, by go_num, h3, c5, t5, U5⟩
            case measure => simp [intOf]; omega
        · have e5 : decide (l < z1) = false := by simp [g]
          rw [e5] at hC1
          have h3 : Hid (D.ctOk T 0 M = (false && D.ctOk T z1 (M.drop (j + 1)))) := by show D.ctOk T 0 M = _; rw [hC1]; simp
          clear hC1 e5 KZz HTz
          go_wp2
          go_roundw
          case rel => exact ⟨j + 1, z1, false, by omega, rfl, rfl, by go_num, h3, blk_keep _ cj, blk_keep _ tj, Uj.alloc _⟩
          case measure => simp [intOf]; omega
      · obtain rfl : j = n' := by omega
        have st : M.drop j = [] := List.drop_eq_nil_of_le (by rw [HN.out]; exact Nat.le_refl _)
        have hC1 := hC.out
        rw [st] at hC1
        have h3 : Hid (R = 0) := by have q : D.ctOk T 0 M = true := hC1; show R = 0; rw [← HR.out, q]; rfl
        clear hC hC1 st HB HT KZ HR
        go_wp2
        go_ret
        exact ⟨by rw [h3.out]; rfl, Uj⟩
  · have e : D.townOk T ah M = false := by
      simp only [D.townOk]
      rw [decide_eq_false (by omega), Bool.false_and, Bool.and_false]
    have n6 : ¬ ((n' : Int) ≤ 6) := by omega
    have n6d : decide ((n' : Int) ≤ 6) = false := by simp; omega
    rw [e, if_neg (by simp)]
    rw [b1] at KL
    clear A B hv e b1 hl
    go_enter Try.func34, Try.ntmps34
    go_wp2_with fail
    refine K.out.mono ?_
    rintro e w1 ⟨rfl, u1⟩
    have U1 := U0.trans u1
    have f1 := cellB (u1.blk t0)
    go_wp2_with fail
    refine (KL.out _).mono ?_
    rintro e w2 ⟨rfl, rfl⟩
    go_wp2
    go_loopw [6] (fun o wr => o = .bool false ∧ Up w wr) (fun _ _ => 0)
    case atStart => exact ⟨by first | rfl | simp [n6d] | (simp; omega), U1⟩
    case round =>
      obtain ⟨rfl, U⟩ := hrel
      go_wp2
      go_ret
      exact ⟨rfl, U⟩
theorem r_CheckTown_no {d : Int} (A : CalArg w a n c L) (hn : n ≤ 17592186044000) (hv : D.valid h m s d L = false) :
    Calls Try.prog 34 #[.agg #[.int .i64 h, .int .i64 m, .int .i64 s, .int .i64 d, .slice a n c], .agg #[.int .i64 ah, .slice a' n' c']] w fun e w' => e = .returned (.int .i64 10) ∧ Up w w' := by
  have U0 := ((Up.refl w).alloc (.cells #[.int .i64 h, .int .i64 m, .int .i64 s, .int .i64 d, .slice a n c] 24)).alloc (.cells #[.int .i64 ah, .slice a' n' c'] 44)
  have K := Lib.hid (r_Check_no (h := h) (m := m) (s := s) (d := d) (c := c) (A.up U0) hn hv)
  clear A hv
  go_enter Try.func34, Try.ntmps34
  go_wp2_with fail
  refine K.out.mono ?_
  rintro e w1 ⟨rfl, u1⟩
  go_wp2
  go_ret
  exact ⟨rfl, U0.trans u1⟩
theorem r_CheckTown_any {d : Int} (A : CalArg w a n c L) (hn : n ≤ 17592186044000) (B : TownArg w a' n' c' M) :
    Calls Try.prog 34 #[.agg #[.int .i64 h, .int .i64 m, .int .i64 s, .int .i64 d, .slice a n c], .agg #[.int .i64 ah, .slice a' n' c']] w fun e w' => e = .returned (.int .i64 (D.townE h m s d L ah M)) ∧ Up w w' := by
  cases hv : D.valid h m s d L
  · have e : D.townE h m s d L ah M = 10 := by simp [D.townE, hv]
    rw [e]; exact r_CheckTown_no A hn hv
  · obtain ⟨h1, h2, m1, m2, s1, s2, d1, d2⟩ := D.valid_bd hv
    obtain ⟨N, rfl⟩ : ∃ N : Nat, d = N := ⟨d.toNat, by omega⟩
    have e : D.townE h m s N L ah M = if D.townOk (D.beg h m s (D.deeds L L.length) N) ah M = true then 0 else 12 := by simp [D.townE, hv]
    rw [e]; exact r_CheckTown_yes A hn B hv
end

end Go.Proofs.Ytfmnfingliflkaa
