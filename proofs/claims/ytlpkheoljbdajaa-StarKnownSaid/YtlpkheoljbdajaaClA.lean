import Derived.Test.YtlpkheoljbdajaaBsc
import Derived.Test.YtlpkheoljbdajaaHeQ
/- What the laws ask of lists: the contracts of Find, Climbs, Ahead. -/
namespace Go.Proofs.Ytlpkheoljbdajaa
open Go.RowKit Go.Shelf
attribute [local go_sem] Oper.semAt_some

set_option maxRecDepth 100000 in
set_option maxHeartbeats 1000000 in
theorem B_Find_any {xs : List Int} {v : Value} {w : World} (I : Ints w v xs) (n : Int) : Calls Try.prog 51 #[v, .int .i64 n] w fun e w' => (∃ r, e = .returned (.int .i64 r) ∧ (r < 0 ↔ n ∉ xs)) ∧ w = w' := by
  obtain ⟨a, c, rfl, _, lx, ma⟩ := I.is
  have MA := Lib.hid ma
  clear ma I
  go_enter Try.func51, Try.ntmps51
  go_wp2_with fail
  go_loopw [8] (fun t wr => ∃ k : Nat, k ≤ xs.length ∧ t = .int .i64 k ∧ Hid (∀ j : Nat, j < k → xs.getD j 0 ≠ n) ∧ w = wr) (fun t _ => xs.length - (intOf t).toNat)
  case atStart => exact ⟨0, Nat.zero_le _, rfl, Lib.hid (fun j hj => absurd hj (by omega)), rfl⟩
  case round =>
    obtain ⟨k, hk, rfl, hF, rfl⟩ := hrel
    by_cases hlt : k < xs.length
    · obtain ⟨g, off, rfl, gl, hc⟩ := MA.out (by omega)
      have c1 := hc k hlt
      have ik : (k : Int) < (xs.length : Int) := by omega
      have dk : decide ((k : Int) < (xs.length : Int)) = true := decide_eq_true ik
      have ew : IntKind.i64.wrap ((k : Int) + 1) = (k : Int) + 1 := IntWalk.i64_in _ (by omega)
      obtain ⟨p, hp⟩ : ∃ p, xs.getD k 0 = p := ⟨_, rfl⟩
      rw [hp] at c1
      have HP := Lib.hid hp
      clear hc hp
      by_cases he : p = n
      · subst he
        go_wp2
        go_ret
        refine ⟨⟨(k : Int), rfl, ?_⟩, rfl⟩
        constructor
        · intro h; omega
        · intro h
          refine absurd ?_ h
          rw [← HP.out, List.getD_eq_getElem?_getD, List.getElem?_eq_getElem hlt]
          exact List.getElem_mem _
      · have fe : (p == n) = false := by simpa using he
        have h3 : Hid (∀ j : Nat, j < k + 1 → xs.getD j 0 ≠ n) := Lib.hid (fun j hj => by
          by_cases e : j = k
          · subst e; rw [HP.out]; exact he
          · exact hF.out j (by omega))
        clear hF
        go_wp2_with fail
        go_roundw
        case rel => exact ⟨k + 1, by omega, by go_num, h3, trivial⟩
        case measure => (simp only [intOf]; omega)
    · have dk : decide ((k : Int) < (xs.length : Int)) = false := decide_eq_false (by omega)
      have ik : ¬ (k : Int) < (xs.length : Int) := by omega
      have HN := Lib.hid (show n ∉ xs from fun hm => by
        obtain ⟨j, hj, e⟩ := List.mem_iff_getElem.1 hm
        refine hF.out j (by omega) ?_
        rw [List.getD_eq_getElem?_getD, List.getElem?_eq_getElem hj]
        exact e)
      clear hF hlt hk MA
      go_wp2
      go_ret
      exact ⟨⟨-1, rfl, ⟨fun _ => HN.out, fun _ => by decide⟩⟩, rfl⟩

end Go.Proofs.Ytlpkheoljbdajaa

/- The contract of In. -/
namespace Go.Proofs.Ytlpkheoljbdajaa
open Go.RowKit Go.Shelf
attribute [local go_sem] Oper.semAt_some
theorem T.bit_all : ∀ (s : Fin 1024) (k : Fin 10), (bits BinOp.and IntKind.i64 (((s : Nat) : Int) / 2 ^ (k : Nat)) 1 == 1) = (s : Nat).testBit k := by decide +kernel
set_option maxRecDepth 100000 in
set_option maxHeartbeats 1000000 in
theorem B_In_any (s k : Nat) (hs : s < 1024) (hk : k < 10) (w : World) : Calls Try.prog 84 #[.int .i64 s, .int .i64 k] w fun e w' => e = .returned (.bool (s.testBit k)) ∧ w = w' := by
  have e : (bits BinOp.and IntKind.i64 ((s : Int) / 2 ^ k) 1 == 1) = s.testBit k := T.bit_all ⟨s, hs⟩ ⟨k, hk⟩
  have HE := Lib.hid e
  have k0 : (0 : Int) ≤ k := by omega
  clear e
  go_enter Try.func84, Try.ntmps84
  go_wp2
  refine bodyPost_ret (v := .bool (bits BinOp.and IntKind.i64 ((s : Int) / 2 ^ k) 1 == 1)) (by simp [results, Try.results84, go_sem]) rfl ⟨by rw [HE.out], rfl⟩

end Go.Proofs.Ytlpkheoljbdajaa

/- The contract of List. -/
namespace Go.Proofs.Ytlpkheoljbdajaa
open Go.RowKit Go.Shelf
attribute [local go_sem] Oper.semAt_some
set_option maxRecDepth 100000 in
set_option maxHeartbeats 2000000 in
theorem B_List_any (z n : Nat) (hz : z < 1024) (hn5 : n ≤ 10) (w : World) : Calls Try.prog 49 #[.int .i64 z, .int .i64 n] w fun e w' => (∃ v, e = .returned v ∧ Ints w' v (T.lst (fun k => z.testBit k) n)) ∧ Up w w' := by
  have HIn := Lib.hid (fun (k : Nat) (hk : k < 10) w => B_In_any z k hz hk w)
  obtain ⟨s, hs⟩ : ∃ s : Nat → Bool, (fun k => z.testBit k) = s := ⟨_, rfl⟩
  have HSS := Lib.hid (fun k => show z.testBit k = s k by rw [← hs])
  rw [hs]
  clear hs
  go_enter Try.func49, Try.ntmps49
  go_wp2_with fail
  obtain ⟨q, hq⟩ : ∃ x, w.heap.size = x := ⟨_, rfl⟩
  have hq1 : q ≤ w.heap.size := by omega
  go_loopw [5, 6] (fun v i wr => ∃ (k : Nat), k ≤ n ∧ i = .int .i64 k ∧ Up w wr ∧ wr.ownsRow q 3 1 v (T.lst s k).length ((T.lst s k).map (Value.int .i64)) ∧ q ≤ wr.heap.size) (fun _ i _ => n - (intOf i).toNat)
  case atStart => exact ⟨0, Nat.zero_le _, rfl, Up.refl _, by show w.ownsRow q 3 1 (.slice none 0 0) 0 []; exact World.ownsRow_nil _ _ _ _, hq1⟩
  case round =>
    clear hq1
    obtain ⟨k, hk, rfl, V, hown, hq2⟩ := hrel
    by_cases hlt : k < n
    · have ew : IntKind.i64.wrap ((k : Int) + 1) = (k : Int) + 1 := IntWalk.i64_in _ (by omega)
      have hin : decide ((k : Int) < (n : Int)) = true := decide_eq_true (by omega)
      have ilt : (k : Int) < (n : Int) := by omega
      obtain ⟨x, hx⟩ : ∃ x, s k = x := ⟨_, rfl⟩
      have HX := Lib.hid hx
      have HV := Lib.hid V
      have HO := Lib.hid hown
      have hll := T.lst_len s k
      clear hx
      go_wp2_with fail
      refine (HIn.out k (by omega) _).mono ?_
      rintro e w9 ⟨rfl, rfl⟩
      rw [HSS.out k, HX.out]
      cases x with
      | false =>
        have HN := Lib.hid (T.lst_no HX.out)
        clear hown V HX
        go_wp2_with fail
        go_roundw
        case rel => exact ⟨k + 1, by omega, by go_num, HV.out, by rw [HN.out]; exact HO.out, hq2⟩
        case measure => (simp only [intOf]; omega)
      | true =>
        have HN := Lib.hid (T.lst_yes HX.out)
        clear HX V
        obtain ⟨i0, hi, hz0, hz1, hz2⟩ := info_parts Try.infoInt
        have hU := Try.underlying28
        go_wp2_with (at_builtin; refine wpList_append_own _ rfl (.tmp 15) (.tmp 17) 28 rfl q 3 i0 (.int .i64 0) 1 8 hU hi hz0 hz1 hz2 rfl (by decide) _ (T.lst s k).length _ rfl (hown.alloc _) ⟨wr.heap.size, 0, none⟩ 1 1 [.int .i64 k] rfl rfl (cell_one_new _ _ _) (by simp [Value.oneCell']) (by unfold maxLen; omega) (by omega) (by simp; omega) ?_; intro v' w6 hown6 hgrow6 hv6)
        go_roundw
        case rel => exact ⟨k + 1, by omega, by go_num, (HV.out.alloc _).grown hgrow6 (fun b e => by have := row_base HO.out b e; omega), by rw [HN.out, List.length_append, List.map_append]; exact hown6, by have := hgrow6.size; rw [sz1] at this; omega⟩
        case measure => (simp only [intOf]; omega)
    · have hin : decide ((k : Int) < (n : Int)) = false := decide_eq_false (by omega)
      have ilt : ¬ (k : Int) < (n : Int) := by omega
      obtain rfl : k = n := by omega
      have HV := Lib.hid V
      have HO := Lib.hid hown
      have hll := T.lst_len s k
      clear hown V hlt hk
      go_wp2
      go_ret
      refine ⟨⟨_, rfl, ?_⟩, HV.out⟩
      rcases HO.out.2 with ⟨rfl, hn⟩ | ⟨g, cap, cur, rfl, hg, hcu, hnc, hcm, hcz, hcc⟩
      · rw [List.eq_nil_of_length_eq_zero hn]
        exact Ints.nil _
      · refine Ints.new hcu hnc (by unfold maxLen at hcm; omega) fun j hj => ?_
        have h1 : cur.toList[j]? = (cur.toList.take ((T.lst s k).length * 1))[j]? := by rw [List.getElem?_take, if_pos (by omega)]
        rw [← Array.getElem?_toList, h1, hcc, List.getElem?_map, List.getElem?_eq_getElem hj, List.getD_eq_getElem?_getD, List.getElem?_eq_getElem hj]
        rfl

end Go.Proofs.Ytlpkheoljbdajaa

/- The contract of Climbs. -/
namespace Go.Proofs.Ytlpkheoljbdajaa
open Go.RowKit Go.Shelf
attribute [local go_sem] Oper.semAt_some

/-- are all numbers from one on, each greater than the one before it, below another one? -/
def T.clm (n : Int) : Int → List Int → Bool
  | _, [] => true
  | l, x :: xs => inB x l (n - 1) && T.clm n (x + 1) xs
theorem T.clm_step {n l : Int} {xs : List Int} {k : Nat} (hk : k < xs.length) : T.clm n l (xs.drop k) = (inB (xs.getD k 0) l (n - 1) && T.clm n (xs.getD k 0 + 1) (xs.drop (k + 1))) := by
  rw [List.drop_eq_getElem_cons hk, List.getD_eq_getElem?_getD, List.getElem?_eq_getElem hk]
  rfl
set_option maxRecDepth 100000 in
set_option maxHeartbeats 2000000 in
theorem B_Climbs_any {xs : List Int} {v : Value} {w : World} (I : Ints w v xs) (n : Nat) (hn : n ≤ 1000) : Calls Try.prog 48 #[v, .int .i64 n] w fun e w' => e = .returned (.bool (T.clm n 0 xs)) ∧ w = w' := by
  obtain ⟨a, c, rfl, _, lx, ma⟩ := I.is
  have MA := Lib.hid ma
  have HL := Lib.hid (fun x l w => B_Lies_any x l ((n : Int) - 1) w)
  have wn : IntKind.i64.wrap ((n : Int) - 1) = (n : Int) - 1 := IntWalk.i64_in _ (by omega)
  clear ma I
  go_enter Try.func48, Try.ntmps48
  go_wp2_with fail
  go_loopw [5, 9] (fun l t wr => ∃ (k : Nat) (b : Int), k ≤ xs.length ∧ 0 ≤ b ∧ t = .int .i64 k ∧ l = .int .i64 b ∧ Hid (T.clm n 0 xs = T.clm n b (xs.drop k)) ∧ w = wr) (fun _ t _ => xs.length - (intOf t).toNat)
  case atStart => exact ⟨0, 0, Nat.zero_le _, Int.le_refl _, rfl, rfl, Lib.hid rfl, rfl⟩
  case round =>
    obtain ⟨k, b, hk, hb0, rfl, rfl, hF, rfl⟩ := hrel
    by_cases hlt : k < xs.length
    · obtain ⟨g, off, rfl, gl, hc⟩ := MA.out (by omega)
      have c1 := hc k hlt
      have st := T.clm_step (n := n) (l := b) hlt
      have ik : (k : Int) < (xs.length : Int) := by omega
      have dk : decide ((k : Int) < (xs.length : Int)) = true := decide_eq_true ik
      have ew : IntKind.i64.wrap ((k : Int) + 1) = (k : Int) + 1 := IntWalk.i64_in _ (by omega)
      obtain ⟨p, hp⟩ : ∃ p, xs.getD k 0 = p := ⟨_, rfl⟩
      rw [hp] at c1 st
      have ST := Lib.hid st
      clear hc hp st
      go_wp2_with fail
      refine (HL.out p b _).mono ?_
      rintro e w9 ⟨rfl, rfl⟩
      cases hb : inB p b ((n : Int) - 1) with
      | false =>
        have h3 := Lib.hid (show T.clm n 0 xs = false by rw [hF.out, ST.out, hb]; rfl)
        clear hF ST hb
        go_wp2
        go_ret
        exact ⟨by rw [h3.out]; rfl, rfl⟩
      | true =>
        have hpb := inB_iff.1 hb
        have ep : IntKind.i64.wrap (p + 1) = p + 1 := IntWalk.i64_in _ (by omega)
        have hp0 : 0 ≤ p + 1 := by omega
        have h3 := Lib.hid (show T.clm n 0 xs = T.clm n (p + 1) (xs.drop (k + 1)) by rw [hF.out, ST.out, hb]; rfl)
        clear hF ST hb hpb
        go_wp2_with fail
        go_roundw
        case rel => exact ⟨k + 1, p + 1, by omega, hp0, by go_num, by go_num, h3, trivial⟩
        case measure => (simp only [intOf]; omega)
    · obtain rfl : k = xs.length := by omega
      have dk : decide ((xs.length : Int) < (xs.length : Int)) = false := decide_eq_false (by omega)
      have h3 := Lib.hid (show T.clm n 0 xs = true by rw [hF.out, List.drop_length]; rfl)
      clear hF hlt hk MA
      go_wp2
      go_ret
      exact ⟨by rw [h3.out]; rfl, rfl⟩

end Go.Proofs.Ytlpkheoljbdajaa

/- The contract of Ahead. -/
namespace Go.Proofs.Ytlpkheoljbdajaa
open Go.RowKit Go.Shelf
attribute [local go_sem] Oper.semAt_some

/-- does a list come before another one? -/
def T.ahd (a b : List Int) : Bool := if D.first a b < a.length ∧ D.first a b < b.length then decide (a.getD (D.first a b) 0 < b.getD (D.first a b) 0) else decide (a.length < b.length)
set_option maxRecDepth 100000 in
set_option maxHeartbeats 2000000 in
theorem B_Ahead_any {xs ys : List Int} {va vb : Value} {w : World} (IA : Ints w va xs) (IB : Ints w vb ys) : Calls Try.prog 50 #[va, vb] w fun e w' => e = .returned (.bool (T.ahd xs ys)) ∧ Up w w' := by
  have HF := Lib.hid (B_First_any IA IB)
  obtain ⟨a, c, rfl, _, lx, ma⟩ := IA.is
  obtain ⟨a', c', rfl, _, ly, mb⟩ := IB.is
  have MA := Lib.hid ma
  have MB := Lib.hid mb
  obtain ⟨i, hi⟩ : ∃ i, D.first xs ys = i := ⟨_, rfl⟩
  have HE : Hid (T.ahd xs ys = if i < xs.length ∧ i < ys.length then decide (xs.getD i 0 < ys.getD i 0) else decide (xs.length < ys.length)) := Lib.hid (by unfold T.ahd; rw [hi])
  rw [hi] at HF
  have hmx : Try.prog.follows .mixedOrders = true := by kernel_rfl
  clear IA IB ma mb hi
  go_enter Try.func50, Try.ntmps50
  go_wp2_with fail
  refine HF.out.mono ?_
  rintro e W1 ⟨rfl, U⟩
  by_cases h1 : i < xs.length
  · have d1 : decide ((i : Int) < (xs.length : Int)) = true := decide_eq_true (by omega)
    have j1 : (i : Int) < (xs.length : Int) := by omega
    by_cases h2 : i < ys.length
    · have d2 : decide ((i : Int) < (ys.length : Int)) = true := decide_eq_true (by omega)
      have j2 : (i : Int) < (ys.length : Int) := by omega
      obtain ⟨g, of, rfl, g1, gc⟩ := MA.out (by omega)
      obtain ⟨g', of', rfl, g1', gc'⟩ := MB.out (by omega)
      have c1 := gc i h1
      have c2 := gc' i h2
      have HR := Lib.hid (HE.out.trans (if_pos ⟨h1, h2⟩))
      generalize xs.getD i 0 = p at *
      generalize ys.getD i 0 = q at *
      have FX := Lib.hid (fun w' (u : Up w w') => And.intro ((u.facts.1 g (of + i) g1).trans c1) ((u.facts.1 g' (of' + i) g1').trans c2))
      clear gc gc' c1 c2 HE HF
      go_wp2_with fail
      refine (wpIn_wide (n := 5)).1 ?_
      refine wpIn_nrm ?_
      refine T.regionQ (fun w' => Up W1 w') 9 1 hmx (by kernel_rfl) (by kernel_rfl) ((Up.refl W1).drew) (fun hCl => ?_)
      refine T.qTake (i := 0) (d := (some 19)) (v := ?v1) rfl rfl (by kernel_rfl) (by decide) hCl (by kernel_rfl) (by kernel_rfl) (by kernel_rfl) (by rfl) ?hy1 (fun _ _ _ => trivial) (fun hCl' => ?_)
      case hy1 => (intro w hSw; refine T.qVal ?_ hSw; (obtain ⟨z1, z2⟩ := FX.out w (U.trans hSw)); (try dsimp only [List.getElem_toArray, List.getElem_cons_succ, List.getElem_cons_zero]); go_simp; try with_reducible rfl)
      simp only [Act.put, List.setIfInBounds_toArray, List.set_cons_zero, List.set_cons_succ]
      replace hCl := hCl'; clear hCl'
      refine T.qTake (i := 1) (d := (some 20)) (v := ?v2) rfl rfl (by kernel_rfl) (by decide) hCl (by kernel_rfl) (by kernel_rfl) (by kernel_rfl) (by rfl) ?hy2 (fun _ _ _ => trivial) (fun hCl' => ?_)
      case hy2 => (intro w hSw; refine T.qVal ?_ hSw; (obtain ⟨z1, z2⟩ := FX.out w (U.trans hSw)); (try dsimp only [List.getElem_toArray, List.getElem_cons_succ, List.getElem_cons_zero]); go_simp; try with_reducible rfl)
      simp only [Act.put, List.setIfInBounds_toArray, List.set_cons_zero, List.set_cons_succ]
      replace hCl := hCl'; clear hCl'
      refine T.qTake (i := 4) (d := (some 23)) (v := ?v3) rfl rfl (by kernel_rfl) (by decide) hCl (by kernel_rfl) (by kernel_rfl) (by kernel_rfl) (by rfl) ?hy3 (fun _ _ _ => trivial) (fun hCl' => ?_)
      case hy3 => (intro w hSw; refine T.qVal ?_ hSw; (obtain ⟨z1, z2⟩ := FX.out w (U.trans hSw)); (try dsimp only [List.getElem_toArray, List.getElem_cons_succ, List.getElem_cons_zero]); go_simp; try with_reducible rfl)
      simp only [Act.put, List.setIfInBounds_toArray, List.set_cons_zero, List.set_cons_succ]
      replace hCl := hCl'; clear hCl'
      refine T.qTake (i := 5) (d := (some 24)) (v := ?v4) rfl rfl (by kernel_rfl) (by decide) hCl (by kernel_rfl) (by kernel_rfl) (by kernel_rfl) (by rfl) ?hy4 (fun _ _ _ => trivial) (fun hCl' => ?_)
      case hy4 => (intro w hSw; refine T.qVal ?_ hSw; (obtain ⟨z1, z2⟩ := FX.out w (U.trans hSw)); (try dsimp only [List.getElem_toArray, List.getElem_cons_succ, List.getElem_cons_zero]); go_simp; try with_reducible rfl)
      simp only [Act.put, List.setIfInBounds_toArray, List.set_cons_zero, List.set_cons_succ]
      replace hCl := hCl'; clear hCl'
      refine T.qTake (i := 2) (d := (some 21)) (v := ?v5) rfl rfl (by kernel_rfl) (by decide) hCl (by kernel_rfl) (by kernel_rfl) (by kernel_rfl) (by rfl) ?hy5 (fun _ _ _ => trivial) (fun hCl' => ?_)
      case hy5 => (intro w hSw; refine T.qVal ?_ hSw; (obtain ⟨z1, z2⟩ := FX.out w (U.trans hSw)); (try dsimp only [List.getElem_toArray, List.getElem_cons_succ, List.getElem_cons_zero]); go_simp; try with_reducible rfl)
      simp only [Act.put, List.setIfInBounds_toArray, List.set_cons_zero, List.set_cons_succ]
      replace hCl := hCl'; clear hCl'
      refine T.qTake (i := 6) (d := (some 25)) (v := ?v6) rfl rfl (by kernel_rfl) (by decide) hCl (by kernel_rfl) (by kernel_rfl) (by kernel_rfl) (by rfl) ?hy6 (fun _ _ _ => trivial) (fun hCl' => ?_)
      case hy6 => (intro w hSw; refine T.qVal ?_ hSw; (obtain ⟨z1, z2⟩ := FX.out w (U.trans hSw)); (try dsimp only [List.getElem_toArray, List.getElem_cons_succ, List.getElem_cons_zero]); go_simp; try with_reducible rfl)
      simp only [Act.put, List.setIfInBounds_toArray, List.set_cons_zero, List.set_cons_succ]
      replace hCl := hCl'; clear hCl'
      refine T.qTake (i := 3) (d := (some 22)) (v := ?v7) rfl rfl (by kernel_rfl) (by decide) hCl (by kernel_rfl) (by kernel_rfl) (by kernel_rfl) (by rfl) ?hy7 (fun _ _ _ => trivial) (fun hCl' => ?_)
      case hy7 => (intro w hSw; refine T.qVal ?_ hSw; (obtain ⟨z1, z2⟩ := FX.out w (U.trans hSw)); (try dsimp only [List.getElem_toArray, List.getElem_cons_succ, List.getElem_cons_zero]); go_simp; try with_reducible rfl)
      simp only [Act.put, List.setIfInBounds_toArray, List.set_cons_zero, List.set_cons_succ]
      replace hCl := hCl'; clear hCl'
      refine T.qTake (i := 7) (d := (some 26)) (v := ?v8) rfl rfl (by kernel_rfl) (by decide) hCl (by kernel_rfl) (by kernel_rfl) (by kernel_rfl) (by rfl) ?hy8 (fun _ _ _ => trivial) (fun hCl' => ?_)
      case hy8 => (intro w hSw; refine T.qVal ?_ hSw; (obtain ⟨z1, z2⟩ := FX.out w (U.trans hSw)); (try dsimp only [List.getElem_toArray, List.getElem_cons_succ, List.getElem_cons_zero]); go_simp; try with_reducible rfl)
      simp only [Act.put, List.setIfInBounds_toArray, List.set_cons_zero, List.set_cons_succ]
      replace hCl := hCl'; clear hCl'
      refine T.qTake (i := 8) (d := (some 27)) (v := ?v9) rfl rfl (by kernel_rfl) (by decide) hCl (by kernel_rfl) (by kernel_rfl) (by kernel_rfl) (by rfl) ?hy9 (fun _ _ _ => trivial) (fun hCl' => ?_)
      case hy9 => (intro w hSw; refine T.qVal ?_ hSw; (obtain ⟨z1, z2⟩ := FX.out w (U.trans hSw)); (try dsimp only [List.getElem_toArray, List.getElem_cons_succ, List.getElem_cons_zero]); go_simp; try with_reducible rfl)
      simp only [Act.put, List.setIfInBounds_toArray, List.set_cons_zero, List.set_cons_succ]
      replace hCl := hCl'; clear hCl'
      refine T.tail_intro (by kernel_rfl) (fun Y1 hY1 => ?_)
      replace U := U.trans hY1
      clear hY1
      refine lastG (i := 9) (by kernel_rfl) rfl (by rfl) (by decide) (fun K hK => ?_)
      go_simp
      refine hK.out _ _ ?_
      clear hK K
      refine doneG (by kernel_rfl) ?_ _
      refine S.nrm_intro ?_
      go_wp2
      go_ret
      exact ⟨by rw [HR.out]; rfl, U⟩
    · have d2 : decide ((i : Int) < (ys.length : Int)) = false := decide_eq_false (by omega)
      have j2 : ¬ (i : Int) < (ys.length : Int) := by omega
      have HR := Lib.hid (HE.out.trans (if_neg (fun q => h2 q.2)))
      have dd : decide ((xs.length : Int) < (ys.length : Int)) = decide (xs.length < ys.length) := by simp
      clear HE HF MA MB h1 h2
      go_wp2
      go_ret
      exact ⟨by rw [HR.out]; simp, U⟩
  · have d1 : decide ((i : Int) < (xs.length : Int)) = false := decide_eq_false (by omega)
    have j1 : ¬ (i : Int) < (xs.length : Int) := by omega
    have HR := Lib.hid (HE.out.trans (if_neg (fun q => h1 q.1)))
    clear HE HF MA MB h1
    go_wp2
    go_ret
    exact ⟨by rw [HR.out]; simp, U⟩

end Go.Proofs.Ytlpkheoljbdajaa
