import Derived.Test.YtckjggkikpgidaaLib
import Derived.Test.YtckjggkikpgidaaPln
/- The contracts of scale's smallest functions: within, sum, isSpan, newRule. -/
namespace Go.Proofs.Ytckjggkikpgidaa
open Go.RowKit

/-- a rule's value -/
abbrev RV (f s j dl dh : Int) : Value := .agg #[.int .i64 f, .int .i64 s, .int .i64 j, .int .i64 dl, .int .i64 dh]
theorem cell_rule {w : World} {b : Nat} {cs : Array Value} (h : mblk w b = some (.cells cs 79 (0, 0))) (j : Nat) : w.cell? ⟨b, j, none⟩ = cs[j]? := cellB h j
theorem cell_RULE {w : World} {b : Nat} {cs : Array Value} (h : mblk w b = some (.cells cs 25 (0, 0))) (j : Nat) : w.cell? ⟨b, j, none⟩ = cs[j]? := cellB h j
theorem cell_Span {w : World} {b : Nat} {cs : Array Value} (h : mblk w b = some (.cells cs 23 (0, 0))) (j : Nat) : w.cell? ⟨b, j, none⟩ = cs[j]? := cellB h j
attribute [go_sem] cell_rule cell_RULE cell_Span

theorem within_any (n l h : Int) (w : World) : Calls Try.prog 65 #[.int .i64 n, .int .i64 l, .int .i64 h] w fun e w' => e = .returned (.bool (inB n l h)) ∧ w = w' := by
  by_cases h1 : l ≤ n
  · by_cases h2 : n ≤ h
    · go_enter Try.func65, Try.ntmps65
      go_wp2
      go_ret
      exact ⟨by rw [inB_yes h1 h2]; rfl, rfl⟩
    · go_enter Try.func65, Try.ntmps65
      go_wp2
      go_ret
      exact ⟨by rw [inB_no (by omega)]; rfl, rfl⟩
  · go_enter Try.func65, Try.ntmps65
    go_wp2
    go_ret
    exact ⟨by rw [inB_no (by omega)]; rfl, rfl⟩
theorem within_yes (n l h : Int) (w : World) (h1 : l ≤ n) (h2 : n ≤ h) : Calls Try.prog 65 #[.int .i64 n, .int .i64 l, .int .i64 h] w fun e w' => e = .returned (.bool true) ∧ w = w' :=
  (within_any n l h w).mono fun e w' ⟨he, hw⟩ => ⟨by rw [he, inB_yes h1 h2], hw⟩
theorem within_no (n l h : Int) (w : World) (h1 : ¬ (l ≤ n ∧ n ≤ h)) : Calls Try.prog 65 #[.int .i64 n, .int .i64 l, .int .i64 h] w fun e w' => e = .returned (.bool false) ∧ w = w' :=
  (within_any n l h w).mono fun e w' ⟨he, hw⟩ => ⟨by rw [he, inB_no h1], hw⟩

theorem ret_bool {a b : Bool} (h : a = b) : Ending.returned (.bool a) = .returned (.bool b) := by rw [h]
theorem wrap_add (a b : Int) : wrap64 (wrap64 a + b) = wrap64 (a + b) := by
  unfold wrap64; omega
theorem S.tot_take (zs : List Int) (k : Nat) (hk : k < zs.length) : (zs.take (k + 1)).sum = (zs.take k).sum + zs.getD k 0 := by
  rw [List.take_succ_eq_append_getElem hk, List.sum_append, List.getD_eq_getElem?_getD, List.getElem?_eq_getElem hk]
  simp
set_option maxRecDepth 100000 in
theorem sum_any {v : Value} {zs : List Int} {w : World} (I : Ints w v zs) :
    Calls Try.prog 71 #[v] w fun e w' => e = .returned (.int .i64 (wrap64 zs.sum)) ∧ w = w' := by
  obtain ⟨a, c, rfl, _, hl, hm⟩ := I.is
  have HM := Lib.hid hm
  clear hm I
  go_enter Try.func71, Try.ntmps71
  go_wp2
  go_loop [3, 8, 5] (fun t i _ => ∃ k : Nat, k ≤ zs.length ∧ i = .int .i64 k ∧ t = .int .i64 (wrap64 (zs.take k).sum)) (fun _ i _ => zs.length - (intOf i).toNat)
  case atStart => exact ⟨0, Nat.zero_le _, rfl, by simp [wrap64]⟩
  case round =>
    obtain ⟨k, hk, rfl, rfl⟩ := hrel
    by_cases hlt : k < zs.length
    · obtain ⟨g, off, rfl, _, hc⟩ := HM.out (by omega)
      have hcell := hc k hlt
      have hts := Lib.hid (S.tot_take zs k hlt)
      generalize zs.getD k 0 = z at *
      generalize hT : (zs.take k).sum = T at *
      have HT := Lib.hid hT
      clear hT hc
      go_wp2
      go_round
      case rel => exact ⟨k + 1, by omega, by go_num, by rw [hts.out, wrap_add]⟩
      case measure => simp [intOf]; omega
    · go_wp2
      go_ret
      exact ⟨ret_int (by rw [List.take_of_length_le (by omega)]), rfl⟩

/-- is a span one, no farther than a number to both sides? -/
def S.spanOk (l h m : Int) : Bool := inB l (-m) h && decide (h ≤ m)
theorem S.spanOk_iff {l h m : Int} : S.spanOk l h m = true ↔ -m ≤ l ∧ l ≤ h ∧ h ≤ m := by simp [S.spanOk, inB_iff, and_assoc]
theorem isSpan_any (l h m : Int) (w : World) (m0 : 0 ≤ m) (m1 : m ≤ 1000000) : Calls Try.prog 81 #[.agg #[.int .i64 l, .int .i64 h], .int .i64 m] w fun e w' => e = .returned (.bool (S.spanOk l h m)) ∧ Up w w' := by
  have U := (Up.refl w).alloc (.cells #[.int .i64 l, .int .i64 h] 23)
  by_cases h1 : -m ≤ l ∧ l ≤ h
  · by_cases h2 : h ≤ m
    · have e : S.spanOk l h m = true := S.spanOk_iff.2 ⟨h1.1, h1.2, h2⟩
      rw [e]
      clear e
      go_enter Try.func81, Try.ntmps81
      go_wp2_with (go_at_call 65; refine (within_yes _ _ _ _ (by omega) (by omega)).mono ?_; rintro e w1 ⟨rfl, rfl⟩)
      go_ret
      exact ⟨rfl, U⟩
    · have e : S.spanOk l h m = false := by simp [S.spanOk, h2]
      rw [e]
      clear e
      go_enter Try.func81, Try.ntmps81
      go_wp2_with (go_at_call 65; refine (within_yes _ _ _ _ (by omega) (by omega)).mono ?_; rintro e w1 ⟨rfl, rfl⟩)
      go_ret
      exact ⟨ret_bool (a := decide (h ≤ m)) (b := false) (decide_eq_false (by omega)), U⟩
  · have e : S.spanOk l h m = false := by simp [S.spanOk, inB_no h1]
    rw [e]
    clear e
    go_enter Try.func81, Try.ntmps81
    go_wp2_with (go_at_call 65; refine (within_no _ _ _ _ (by omega)).mono ?_; rintro e w1 ⟨rfl, rfl⟩)
    go_ret
    exact ⟨rfl, U⟩

/-- is a rule valid? -/
def S.ok (f s j dl dh : Int) : Bool := inB f 0 500 && (inB s 0 500 && (inB j 1 500 && S.spanOk dl dh 100))
theorem S.ok_iff {f s j dl dh : Int} : S.ok f s j dl dh = true ↔ (0 ≤ f ∧ f ≤ 500) ∧ (0 ≤ s ∧ s ≤ 500) ∧ (1 ≤ j ∧ j ≤ 500) ∧ (-100 ≤ dl ∧ dl ≤ dh ∧ dh ≤ 100) := by simp [S.ok, inB_iff, S.spanOk_iff]
abbrev RZ : Value := .agg #[.int .i64 0, .int .i64 0, .int .i64 0, .int .i64 0, .int .i64 0]

set_option maxRecDepth 100000 in
theorem newRule_yes {f s j dl dh : Int} (w : World) (h : S.ok f s j dl dh = true) : Calls Try.prog 54 #[RV f s j dl dh] w fun e w' => e = .returned (.tuple #[RV f s j dl dh, .int .i64 0]) ∧ Up w w' := by
  obtain ⟨⟨f1, f2⟩, ⟨s1, s2⟩, ⟨j1, j2⟩, hd⟩ := S.ok_iff.1 h
  have K := Lib.hid (fun w => show Calls Try.prog 81 #[.agg #[.int .i64 dl, .int .i64 dh], .int .i64 100] w fun e w' => e = .returned (.bool true) ∧ Up w w' by rw [← S.spanOk_iff.2 hd]; exact isSpan_any _ _ _ w (by omega) (by omega))
  have U0 := ((Up.refl w).alloc (.cells #[.int .i64 f, .int .i64 s, .int .i64 j, .int .i64 dl, .int .i64 dh] 25)).alloc (.cells #[.int .i64 0, .int .i64 0, .int .i64 0, .int .i64 0, .int .i64 0] 79)
  have k0 := blk_new (w.alloc (.cells #[.int .i64 f, .int .i64 s, .int .i64 j, .int .i64 dl, .int .i64 dh] 25)) (.cells #[.int .i64 0, .int .i64 0, .int .i64 0, .int .i64 0, .int .i64 0] 79) (w.heap.size + 1) (by simp)
  have l0 := blk_keep (.cells #[.int .i64 0, .int .i64 0, .int .i64 0, .int .i64 0, .int .i64 0] 79) (blk_new w (.cells #[.int .i64 f, .int .i64 s, .int .i64 j, .int .i64 dl, .int .i64 dh] 25) w.heap.size rfl)
  clear h hd
  go_enter Try.func54, Try.ntmps54
  go_wp2_with (go_at_call 65; refine (within_yes _ _ _ _ (by omega) (by omega)).mono ?_; rintro e w1 ⟨rfl, rfl⟩)
  refine (K.out _).mono ?_
  rintro e w1 ⟨rfl, u1⟩
  have k1 := u1.blk k0
  have l1 := u1.blk l0
  have z1 := frozB k1
  have U1 := U0.trans u1
  clear u1 k0 l0 U0 K
  have c := cellB (blk_put (blk_put (blk_put (blk_put (blk_put k1 0 (.int .i64 f)) 1 (.int .i64 s)) 2 (.int .i64 j)) 3 (.int .i64 dl)) 4 (.int .i64 dh))
  have n0 : w.heap.size ≤ w.heap.size + 1 := by omega
  have UE := ((((U1.set (p := ⟨w.heap.size + 1, 0, none⟩) n0 (.int .i64 f)).set (p := ⟨w.heap.size + 1, 1, none⟩) n0 (.int .i64 s)).set (p := ⟨w.heap.size + 1, 2, none⟩) n0 (.int .i64 j)).set (p := ⟨w.heap.size + 1, 3, none⟩) n0 (.int .i64 dl)).set (p := ⟨w.heap.size + 1, 4, none⟩) n0 (.int .i64 dh)
  clear n0
  have C := Lib.hid c
  clear c
  go_wp2_with fail
  have c := C.out
  exact bodyPost_ret (v := .tuple #[RV f s j dl dh, .int .i64 0]) (by simp [results, Try.results54, go_sem, c]) rfl ⟨rfl, UE⟩

set_option maxRecDepth 100000 in
theorem newRule_no {f s j dl dh : Int} (w : World) (h : S.ok f s j dl dh = false) : Calls Try.prog 54 #[RV f s j dl dh] w fun e w' => e = .returned (.tuple #[RZ, .int .i64 40]) ∧ Up w w' := by
  have U0 := ((Up.refl w).alloc (.cells #[.int .i64 f, .int .i64 s, .int .i64 j, .int .i64 dl, .int .i64 dh] 25)).alloc (.cells #[.int .i64 0, .int .i64 0, .int .i64 0, .int .i64 0, .int .i64 0] 79)
  have k0 := blk_new (w.alloc (.cells #[.int .i64 f, .int .i64 s, .int .i64 j, .int .i64 dl, .int .i64 dh] 25)) (.cells #[.int .i64 0, .int .i64 0, .int .i64 0, .int .i64 0, .int .i64 0] 79) (w.heap.size + 1) (by simp)
  by_cases hf : 0 ≤ f ∧ f ≤ 500
  · by_cases hs : 0 ≤ s ∧ s ≤ 500
    · by_cases hj : 1 ≤ j ∧ j ≤ 500
      · have hd : S.spanOk dl dh 100 = false := by
          cases hd : S.spanOk dl dh 100
          · rfl
          · rw [S.ok_iff.2 ⟨hf, hs, hj, S.spanOk_iff.1 hd⟩] at h; cases h
        have K := Lib.hid (fun w => show Calls Try.prog 81 #[.agg #[.int .i64 dl, .int .i64 dh], .int .i64 100] w fun e w' => e = .returned (.bool false) ∧ Up w w' by rw [← hd]; exact isSpan_any _ _ _ w (by omega) (by omega))
        obtain ⟨f1, f2⟩ := hf
        obtain ⟨s1, s2⟩ := hs
        obtain ⟨j1, j2⟩ := hj
        clear h hd
        go_enter Try.func54, Try.ntmps54
        go_wp2_with (go_at_call 65; refine (within_yes _ _ _ _ (by omega) (by omega)).mono ?_; rintro e w1 ⟨rfl, rfl⟩)
        refine (K.out _).mono ?_
        rintro e w1 ⟨rfl, u1⟩
        have k1 := u1.blk k0
        have z1 := frozB k1
        have U1 := U0.trans u1
        clear u1 k0 U0 K
        have c := cellB (blk_put (blk_put (blk_put (blk_put (blk_put k1 0 (.int .i64 0)) 1 (.int .i64 0)) 2 (.int .i64 0)) 3 (.int .i64 0)) 4 (.int .i64 0))
        have n0 : w.heap.size ≤ w.heap.size + 1 := by omega
        have UE := ((((U1.set (p := ⟨w.heap.size + 1, 0, none⟩) n0 (.int .i64 0)).set (p := ⟨w.heap.size + 1, 1, none⟩) n0 (.int .i64 0)).set (p := ⟨w.heap.size + 1, 2, none⟩) n0 (.int .i64 0)).set (p := ⟨w.heap.size + 1, 3, none⟩) n0 (.int .i64 0)).set (p := ⟨w.heap.size + 1, 4, none⟩) n0 (.int .i64 0)
        clear n0
        have C := Lib.hid c
        clear c
        go_wp2_with fail
        have c := C.out
        exact bodyPost_ret (v := .tuple #[RZ, .int .i64 40]) (by simp [results, Try.results54, go_sem, c]) rfl ⟨rfl, UE⟩
      · clear h
        obtain ⟨f1, f2⟩ := hf
        obtain ⟨s1, s2⟩ := hs
        go_enter Try.func54, Try.ntmps54
        go_wp2_with (first | (go_at_call 65; refine (within_yes _ _ _ _ (by omega) (by omega)).mono ?_; rintro e w1 ⟨rfl, rfl⟩) | (go_at_call 65; refine (within_no _ _ _ _ (by omega)).mono ?_; rintro e w1 ⟨rfl, rfl⟩))
        exact bodyPost_ret (v := .tuple #[RZ, .int .i64 40]) (by simp [results, Try.results54, go_sem]) rfl ⟨rfl, U0⟩
    · clear h
      obtain ⟨f1, f2⟩ := hf
      go_enter Try.func54, Try.ntmps54
      go_wp2_with (first | (go_at_call 65; refine (within_yes _ _ _ _ (by omega) (by omega)).mono ?_; rintro e w1 ⟨rfl, rfl⟩) | (go_at_call 65; refine (within_no _ _ _ _ (by omega)).mono ?_; rintro e w1 ⟨rfl, rfl⟩))
      exact bodyPost_ret (v := .tuple #[RZ, .int .i64 40]) (by simp [results, Try.results54, go_sem]) rfl ⟨rfl, U0⟩
  · clear h
    go_enter Try.func54, Try.ntmps54
    go_wp2_with (first | (go_at_call 65; refine (within_yes _ _ _ _ (by omega) (by omega)).mono ?_; rintro e w1 ⟨rfl, rfl⟩) | (go_at_call 65; refine (within_no _ _ _ _ (by omega)).mono ?_; rintro e w1 ⟨rfl, rfl⟩))
    exact bodyPost_ret (v := .tuple #[RZ, .int .i64 40]) (by simp [results, Try.results54, go_sem]) rfl ⟨rfl, U0⟩

end Go.Proofs.Ytckjggkikpgidaa
