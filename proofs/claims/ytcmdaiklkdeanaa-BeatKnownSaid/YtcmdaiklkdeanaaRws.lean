import Derived.Test.YtcmdaiklkdeanaaWro
import Derived.Deep.MidRow
/- The contracts of sideOf and rows. -/
namespace Go.Proofs.Ytcmdaiklkdeanaa
open Go.RowKit Go.Shelf
attribute [local go_sem] Oper.semAt_some

set_option maxRecDepth 100000 in
set_option maxHeartbeats 2000000 in
theorem sideOf_any (m : Bool) (w : World) : Calls Try.prog 55 #[.bool m] w fun e w' => e = .returned (if m then AhV else BeV) ∧ Up w w' := by
  cases m with
  | true =>
    go_enter Try.func55, Try.ntmps55
    have U0 := (Up.refl w).alloc (.cells #[.nilFunc, .int .i64 0] 104)
    have k0 := blk_new w (.cells #[.nilFunc, .int .i64 0] 104) _ rfl
    go_wp2_with fail
    refine (ahead_any _).mono ?_
    rintro e W1 ⟨rfl, u1⟩
    replace k0 := u1.blk k0
    replace U0 := U0.trans u1
    have f0 := frozB k0
    have l0 := blk_lt k0
    have kz : mblk ((W1.setCell ⟨w.heap.size, 0, none⟩ (.func (.func 96) #[] #[])).setCell ⟨w.heap.size, 1, none⟩ (.int .i64 1)) w.heap.size = some (.cells #[.func (.func 96) #[] #[], .int .i64 1] 104 (0, 0)) := blk_put (blk_put k0 0 _) 1 _
    have HKZ := Lib.hid kz
    have UZ := (U0.set (p := ⟨w.heap.size, 0, none⟩) (Nat.le_refl _) (.func (.func 96) #[] #[])).set (p := ⟨w.heap.size, 1, none⟩) (Nat.le_refl _) (.int .i64 1)
    clear kz u1
    go_wp2
    have cZ := cellB HKZ.out
    exact bodyPost_ret (v := AhV) (by simp [results, Try.results55, go_sem, cZ]) rfl ⟨rfl, UZ⟩
  | false =>
    go_enter Try.func55, Try.ntmps55
    have U0 := (Up.refl w).alloc (.cells #[.nilFunc, .int .i64 0] 104)
    have k0 := blk_new w (.cells #[.nilFunc, .int .i64 0] 104) _ rfl
    go_wp2_with fail
    refine (behind_any _).mono ?_
    rintro e W1 ⟨rfl, u1⟩
    replace k0 := u1.blk k0
    replace U0 := U0.trans u1
    have f0 := frozB k0
    have l0 := blk_lt k0
    have kz : mblk ((W1.setCell ⟨w.heap.size, 0, none⟩ (.func (.func 97) #[] #[])).setCell ⟨w.heap.size, 1, none⟩ (.int .i64 (-1))) w.heap.size = some (.cells #[.func (.func 97) #[] #[], .int .i64 (-1)] 104 (0, 0)) := blk_put (blk_put k0 0 _) 1 _
    have HKZ := Lib.hid kz
    have UZ := (U0.set (p := ⟨w.heap.size, 0, none⟩) (Nat.le_refl _) (.func (.func 97) #[] #[])).set (p := ⟨w.heap.size, 1, none⟩) (Nat.le_refl _) (.int .i64 (-1))
    clear kz u1
    go_wp2
    have cZ := cellB HKZ.out
    exact bodyPost_ret (v := BeV) (by simp [results, Try.results55, go_sem, cZ]) rfl ⟨rfl, UZ⟩
section
variable {H : Nat} {aR aO aP aT : Option Addr} {nR cR nO cO nP cP nT cT : Nat} {b0 b1 b2 b3 b4 : Bool}
/-- a row of 13 numbers, in memory -/
def T.R13 (cs : Array Value) (f : Nat → Int) : Prop := cs.size = 13 ∧ ∀ j, j < 13 → cs[j]? = some (.int .i64 (f j))
/-- rows of 13 numbers each, as many of each as there are steps and one -/
def T.Rwp (w : World) (us : List Value) (f : Nat → Nat → Int) (H k : Nat) : Prop :=
  us.length = k ∧ ∀ i, i < k → ∃ g cs, us[i]? = some (.slice (some ⟨g, 0, none⟩) (H + 1) (H + 1)) ∧ mblk w g = some (.cells cs 85 (0, 0)) ∧ T.R13 cs (f i)
def T.rws (o : Int × Int → Int) (sg : Int) (nR H : Nat) : List (List Int) := (List.range nR).map fun (k : Nat) => (List.range (H + 1)).map fun (j : Nat) => IntKind.i64.wrap (o ((k : Int), (j : Int)) * sg)
theorem T.R13.put {cs : Array Value} {f : Nat → Int} (h : T.R13 cs f) {j : Nat} (_hj : j < 13) (v : Int) : T.R13 (cs.setIfInBounds j (.int .i64 v)) (fun i => if i = j then v else f i) := by
  refine ⟨by rw [Array.size_setIfInBounds, h.1], fun i hi => ?_⟩
  rw [Array.getElem?_setIfInBounds]
  by_cases e : j = i
  · subst e
    rw [if_pos rfl, if_pos (by rw [h.1]; exact hi)]
    simp
  · rw [if_neg e, h.2 i hi]
    show _ = some (Value.int .i64 (if i = j then v else f i))
    rw [if_neg (fun x : i = j => e x.symm)]
theorem T.R13.congr {cs : Array Value} {f f' : Nat → Int} (h : T.R13 cs f) (e : ∀ i, i < 13 → f i = f' i) : T.R13 cs f' := ⟨h.1, fun i hi => by rw [h.2 i hi, e i hi]⟩
theorem row_other {W W' : World} {base size n : Nat} {e : TypeId} {v : Value} {xs : List Value} {row : Option Nat} (ho : W.ownsRow base e size v n xs) (hg : W.grownBy W' row) (hne : row ≠ v.ownBlock) : W'.ownsRow base e size v n xs := by
  refine ⟨ho.1, ?_⟩
  rcases ho.2 with h | ⟨g, cap, cur, hv, hb, hc, rest⟩
  · exact .inl h
  · refine .inr ⟨g, cap, cur, hv, hb, ?_, rest⟩
    refine (hg.block g (Array.getElem?_eq_some_iff.1 hc).1 (fun e => hne ?_)).trans hc
    rw [← e, hv]
    rfl
theorem infoInts : (Try.prog.info? 44).map (fun i => (i.zero, i.size, i.bytes)) = some (some (.slice none 0 0), 1, 24) := by kernel_rfl
theorem T.Rwp.keep {w w' : World} {us : List Value} {f : Nat → Nat → Int} {H k : Nat} (h : T.Rwp w us f H k) (hk : ∀ g cs, mblk w g = some (.cells cs 85 (0, 0)) → mblk w' g = some (.cells cs 85 (0, 0))) : T.Rwp w' us f H k := by
  refine ⟨h.1, fun i hi => ?_⟩
  obtain ⟨g, cs, h1, h2, h3⟩ := h.2 i hi
  exact ⟨g, cs, h1, hk g cs h2, h3⟩
theorem T.Rwp.add {w : World} {us : List Value} {f : Nat → Nat → Int} {H k : Nat} (h : T.Rwp w us f H k) {g : Nat} {cs : Array Value} (hg : mblk w g = some (.cells cs 85 (0, 0))) (hc : T.R13 cs (f k)) : T.Rwp w (us ++ [.slice (some ⟨g, 0, none⟩) (H + 1) (H + 1)]) f H (k + 1) := by
  refine ⟨by rw [List.length_append, h.1]; rfl, fun i hi => ?_⟩
  by_cases e : i < k
  · obtain ⟨g', cs', h1, h2, h3⟩ := h.2 i e
    exact ⟨g', cs', by rw [List.getElem?_append_left (by rw [h.1]; exact e)]; exact h1, h2, h3⟩
  · obtain rfl : i = k := by omega
    refine ⟨g, cs, ?_, hg, hc⟩
    rw [List.getElem?_append_right (by rw [h.1]; exact Nat.le_refl _), h.1, Nat.sub_self]
    rfl
theorem T.Rwp.rows {w : World} {base : Nat} {v : Value} {us : List Value} {o : Int × Int → Int} {sg : Int} {H nR : Nat} (h : T.Rwp w us (fun (k j : Nat) => IntKind.i64.wrap (o ((k : Int), (j : Int)) * sg)) H nR) (hH : H ≤ 12) (hR : nR ≤ 5) (ho : w.ownsRow base 44 1 v nR us) : T.Rows w v (T.rws o sg nR H) := by
  have hl : (T.rws o sg nR H).length = nR := by unfold T.rws; rw [List.length_map, List.length_range]
  rcases ho.2 with ⟨rfl, rfl⟩ | ⟨g, cap, cur, rfl, hg, hcu, hnc, hcm, hcz, hcc⟩
  · rw [List.eq_nil_of_length_eq_zero hl]
    exact T.Rows.nil _
  · refine ⟨_, _, by rw [hl], by rw [hl]; exact hnc, by rw [hl]; omega, fun _ => ⟨g, 0, rfl, blk_lt hcu, fun j hj => ?_⟩⟩
    rw [hl] at hj
    obtain ⟨g', cs', h1, h2, h3, h4⟩ := h.2 j hj
    refine ⟨.slice (some ⟨g', 0, none⟩) (H + 1) (H + 1), ?_, ?_⟩
    · have q : cur.toList[j]? = (cur.toList.take (nR * 1))[j]? := by rw [List.getElem?_take, if_pos (by omega)]
      rw [Nat.zero_add, cellB hcu, ← Array.getElem?_toList, q, hcc, h1]
    · have e : (T.rws o sg nR H).getD j [] = (List.range (H + 1)).map fun (i : Nat) => IntKind.i64.wrap (o ((j : Int), (i : Int)) * sg) := by
        unfold T.rws
        rw [List.getD_eq_getElem?_getD, List.getElem?_map, List.getElem?_range hj]
        rfl
      rw [e]
      have hm : ((List.range (H + 1)).map fun (i : Nat) => IntKind.i64.wrap (o ((j : Int), (i : Int)) * sg)).length = H + 1 := by rw [List.length_map, List.length_range]
      have := Ints.new (w := w) (g := g') (cap := H + 1) (xs := (List.range (H + 1)).map fun (i : Nat) => IntKind.i64.wrap (o ((j : Int), (i : Int)) * sg)) h2 (by rw [hm]; exact Nat.le_refl _) (by rw [hm]; omega) (fun i hi => by
        rw [hm] at hi
        rw [h4 i (by omega), List.getD_eq_getElem?_getD, List.getElem?_map, List.getElem?_range hi]
        rfl)
      rw [hm] at this
      exact this
theorem infoRow : (Try.prog.info? 85).map (·.size) = some 13 := by kernel_rfl
theorem T.sl13 {H : Nat} (h : H ≤ 12) (g : Nat) (w : World) : (Instr.sliceAt 85 (.pointer (some ⟨g, 0, none⟩)) none (some (.int .i64 ((H : Int) + 1))) (some (.int .i64 ((H : Int) + 1)))).run Try.prog w = .ok (.slice (some ⟨g, 0, none⟩) (H + 1) (H + 1)) w := by
  have e0 : (Instr.sliceAt 85 (.pointer (some ⟨g, 0, none⟩)) none (some (.int .i64 (((0 : Nat) : Int) + 1))) (some (.int .i64 (((0 : Nat) : Int) + 1)))).run Try.prog w = .ok (.slice (some ⟨g, 0, none⟩) (0 + 1) (0 + 1)) w := by kernel_rfl
  have e1 : (Instr.sliceAt 85 (.pointer (some ⟨g, 0, none⟩)) none (some (.int .i64 (((1 : Nat) : Int) + 1))) (some (.int .i64 (((1 : Nat) : Int) + 1)))).run Try.prog w = .ok (.slice (some ⟨g, 0, none⟩) (1 + 1) (1 + 1)) w := by kernel_rfl
  have e2 : (Instr.sliceAt 85 (.pointer (some ⟨g, 0, none⟩)) none (some (.int .i64 (((2 : Nat) : Int) + 1))) (some (.int .i64 (((2 : Nat) : Int) + 1)))).run Try.prog w = .ok (.slice (some ⟨g, 0, none⟩) (2 + 1) (2 + 1)) w := by kernel_rfl
  have e3 : (Instr.sliceAt 85 (.pointer (some ⟨g, 0, none⟩)) none (some (.int .i64 (((3 : Nat) : Int) + 1))) (some (.int .i64 (((3 : Nat) : Int) + 1)))).run Try.prog w = .ok (.slice (some ⟨g, 0, none⟩) (3 + 1) (3 + 1)) w := by kernel_rfl
  have e4 : (Instr.sliceAt 85 (.pointer (some ⟨g, 0, none⟩)) none (some (.int .i64 (((4 : Nat) : Int) + 1))) (some (.int .i64 (((4 : Nat) : Int) + 1)))).run Try.prog w = .ok (.slice (some ⟨g, 0, none⟩) (4 + 1) (4 + 1)) w := by kernel_rfl
  have e5 : (Instr.sliceAt 85 (.pointer (some ⟨g, 0, none⟩)) none (some (.int .i64 (((5 : Nat) : Int) + 1))) (some (.int .i64 (((5 : Nat) : Int) + 1)))).run Try.prog w = .ok (.slice (some ⟨g, 0, none⟩) (5 + 1) (5 + 1)) w := by kernel_rfl
  have e6 : (Instr.sliceAt 85 (.pointer (some ⟨g, 0, none⟩)) none (some (.int .i64 (((6 : Nat) : Int) + 1))) (some (.int .i64 (((6 : Nat) : Int) + 1)))).run Try.prog w = .ok (.slice (some ⟨g, 0, none⟩) (6 + 1) (6 + 1)) w := by kernel_rfl
  have e7 : (Instr.sliceAt 85 (.pointer (some ⟨g, 0, none⟩)) none (some (.int .i64 (((7 : Nat) : Int) + 1))) (some (.int .i64 (((7 : Nat) : Int) + 1)))).run Try.prog w = .ok (.slice (some ⟨g, 0, none⟩) (7 + 1) (7 + 1)) w := by kernel_rfl
  have e8 : (Instr.sliceAt 85 (.pointer (some ⟨g, 0, none⟩)) none (some (.int .i64 (((8 : Nat) : Int) + 1))) (some (.int .i64 (((8 : Nat) : Int) + 1)))).run Try.prog w = .ok (.slice (some ⟨g, 0, none⟩) (8 + 1) (8 + 1)) w := by kernel_rfl
  have e9 : (Instr.sliceAt 85 (.pointer (some ⟨g, 0, none⟩)) none (some (.int .i64 (((9 : Nat) : Int) + 1))) (some (.int .i64 (((9 : Nat) : Int) + 1)))).run Try.prog w = .ok (.slice (some ⟨g, 0, none⟩) (9 + 1) (9 + 1)) w := by kernel_rfl
  have e10 : (Instr.sliceAt 85 (.pointer (some ⟨g, 0, none⟩)) none (some (.int .i64 (((10 : Nat) : Int) + 1))) (some (.int .i64 (((10 : Nat) : Int) + 1)))).run Try.prog w = .ok (.slice (some ⟨g, 0, none⟩) (10 + 1) (10 + 1)) w := by kernel_rfl
  have e11 : (Instr.sliceAt 85 (.pointer (some ⟨g, 0, none⟩)) none (some (.int .i64 (((11 : Nat) : Int) + 1))) (some (.int .i64 (((11 : Nat) : Int) + 1)))).run Try.prog w = .ok (.slice (some ⟨g, 0, none⟩) (11 + 1) (11 + 1)) w := by kernel_rfl
  have e12 : (Instr.sliceAt 85 (.pointer (some ⟨g, 0, none⟩)) none (some (.int .i64 (((12 : Nat) : Int) + 1))) (some (.int .i64 (((12 : Nat) : Int) + 1)))).run Try.prog w = .ok (.slice (some ⟨g, 0, none⟩) (12 + 1) (12 + 1)) w := by kernel_rfl
  match H, h with
  | 0, _ => exact e0
  | 1, _ => exact e1
  | 2, _ => exact e2
  | 3, _ => exact e3
  | 4, _ => exact e4
  | 5, _ => exact e5
  | 6, _ => exact e6
  | 7, _ => exact e7
  | 8, _ => exact e8
  | 9, _ => exact e9
  | 10, _ => exact e10
  | 11, _ => exact e11
  | 12, _ => exact e12
theorem T.row_range {W : World} {q : Nat} {cs : Array Value} {o : Int × Int → Int} (hO : T.OC cs o) (hq : mblk W q = some (.cells cs 87 (0, 0))) {k : Nat} (hk : k < 5) : W.rangeAt q ((k + 1) * 13) ((List.range 13).map fun (j : Nat) => Value.int .i64 (o ((k : Int), (j : Int)))) := by
  intro j v hv
  rw [List.getElem?_map] at hv
  have hj : j < 13 := by
    by_cases h : j < 13
    · exact h
    · rw [List.getElem?_eq_none (by rw [List.length_range]; omega)] at hv
      cases hv
  rw [List.getElem?_range hj] at hv
  have := Option.some.inj hv
  subst this
  rw [cellB hq]
  have h := hO.at_ ((k : Int), (j : Int)) (by unfold T.in6; constructor <;> omega)
  rw [← h]
  unfold T.pl
  congr 1
set_option maxRecDepth 100000 in
set_option maxHeartbeats 2000000 in
theorem rows_any {w : World} {cs : Array Value} {o : Int × Int → Int} {sg : Int} {fs : Value} (hH : H ≤ 12) (hR : nR ≤ 5) (hO : T.OC cs o) :
    Calls Try.prog 57 #[WeV H (.slice aR nR cR) (.slice aO nO cO) (.slice aP nP cP) b0 b1 b2 b3 b4 (.slice aT nT cT), .agg cs, .agg #[fs, .int .i64 sg]] w fun e w' => (∃ v, e = .returned v ∧ T.Rows w' v (T.rws o sg nR H)) ∧ Up w w' := by
  have hok := hO.one
  have hs := Lib.hid hok.1
  have HOC := Lib.hid hO
  have hs2 := hok.1
  clear hO
  go_enter Try.func57, Try.ntmps57
  go_wp2_with fail
  obtain ⟨q0, e0⟩ : ∃ x, w.heap.size = x := ⟨_, rfl⟩
  obtain ⟨q1, e1⟩ : ∃ x, q0 + 1 = x := ⟨_, rfl⟩
  obtain ⟨q2, e2⟩ : ∃ x, q1 + 1 = x := ⟨_, rfl⟩
  have U0 : Up w ((((w.alloc (.cells (WeC H (.slice aR nR cR) (.slice aO nO cO) (.slice aP nP cP) b0 b1 b2 b3 b4 (.slice aT nT cT)) 82)).alloc (.cells cs 87))).alloc (.cells #[fs, .int .i64 sg] 104)) := (((Up.refl w).alloc _).alloc _).alloc _
  have k0 : mblk ((((w.alloc (.cells (WeC H (.slice aR nR cR) (.slice aO nO cO) (.slice aP nP cP) b0 b1 b2 b3 b4 (.slice aT nT cT)) 82)).alloc (.cells cs 87))).alloc (.cells #[fs, .int .i64 sg] 104)) q0 = some (.cells (WeC H (.slice aR nR cR) (.slice aO nO cO) (.slice aP nP cP) b0 b1 b2 b3 b4 (.slice aT nT cT)) 82 (0, 0)) := blk_keep _ (blk_keep _ (blk_new _ _ _ e0.symm))
  have k1 : mblk ((((w.alloc (.cells (WeC H (.slice aR nR cR) (.slice aO nO cO) (.slice aP nP cP) b0 b1 b2 b3 b4 (.slice aT nT cT)) 82)).alloc (.cells cs 87))).alloc (.cells #[fs, .int .i64 sg] 104)) q1 = some (.cells cs 87 (0, 0)) := blk_keep _ (blk_new _ _ _ (by rw [sz1]; omega))
  have k2 : mblk ((((w.alloc (.cells (WeC H (.slice aR nR cR) (.slice aO nO cO) (.slice aP nP cP) b0 b1 b2 b3 b4 (.slice aT nT cT)) 82)).alloc (.cells cs 87))).alloc (.cells #[fs, .int .i64 sg] 104)) q2 = some (.cells #[fs, .int .i64 sg] 104 (0, 0)) := blk_new _ _ _ (by rw [sz1, sz1]; omega)
  have hsz : q2 + 1 ≤ (((((w.alloc (.cells (WeC H (.slice aR nR cR) (.slice aO nO cO) (.slice aP nP cP) b0 b1 b2 b3 b4 (.slice aT nT cT)) 82)).alloc (.cells cs 87))).alloc (.cells #[fs, .int .i64 sg] 104))).heap.size := by rw [sz1, sz1, sz1]; omega
  generalize ((((w.alloc (.cells (WeC H (.slice aR nR cR) (.slice aO nO cO) (.slice aP nP cP) b0 b1 b2 b3 b4 (.slice aT nT cT)) 82)).alloc (.cells cs 87))).alloc (.cells #[fs, .int .i64 sg] 104)) = W at U0 k0 k1 k2 hsz ⊢
  rw [e0, e1, e2]
  have HE := Lib.hid (And.intro e0 (And.intro e1 e2))
  clear e0 e1 e2 hs2 hok
  go_loopw [7, 16] (fun v i wr => ∃ (k : Nat) (us : List Value), k ≤ nR ∧ i = .int .i64 k ∧ Up w wr ∧ mblk wr q0 = some (.cells (WeC H (.slice aR nR cR) (.slice aO nO cO) (.slice aP nP cP) b0 b1 b2 b3 b4 (.slice aT nT cT)) 82 (0, 0)) ∧ mblk wr q1 = some (.cells cs 87 (0, 0)) ∧ mblk wr q2 = some (.cells #[fs, .int .i64 sg] 104 (0, 0)) ∧ wr.ownsRow (q2 + 1) 44 1 v k us ∧ Hid (T.Rwp wr us (fun (k j : Nat) => IntKind.i64.wrap (o ((k : Int), (j : Int)) * sg)) H k) ∧ q2 + 1 ≤ wr.heap.size) (fun _ i _ => nR - (intOf i).toNat)
  case atStart => exact ⟨0, [], Nat.zero_le _, rfl, U0, k0, k1, k2, World.ownsRow_nil _ _ _ _, Lib.hid ⟨rfl, fun i hi => absurd hi (Nat.not_lt_zero _)⟩, hsz⟩
  case round =>
    clear k0 k1 k2 U0 hsz
    obtain ⟨k, us, hk, rfl, V, k0, k1, k2, hown, hrw, hsz⟩ := hrel
    by_cases hlt : k < nR
    · have d1 : decide (k < nR) = true := decide_eq_true hlt
      have ew : IntKind.i64.wrap ((k : Int) - -1) = ((k + 1 : Nat) : Int) := by rw [show (k : Int) - -1 = ((k + 1 : Nat) : Int) by omega]; exact IntWalk.i64_in _ (by omega)
      have ew1 : IntKind.i64.wrap ((k : Int) + 1) = (k : Int) + 1 := IntWalk.i64_in _ (by omega)
      have c0 : wr.cell? ⟨q1, (k + 1) * 13, none⟩ = some (.int .i64 (o ((k : Int), 0))) := T.row_range HOC.out k1 (show k < 5 by omega) 0 _ rfl
      have c1 : wr.cell? ⟨q1, (k + 1) * 13 + 1, none⟩ = some (.int .i64 (o ((k : Int), 1))) := T.row_range HOC.out k1 (show k < 5 by omega) 1 _ rfl
      have c2 : wr.cell? ⟨q1, (k + 1) * 13 + 2, none⟩ = some (.int .i64 (o ((k : Int), 2))) := T.row_range HOC.out k1 (show k < 5 by omega) 2 _ rfl
      have c3 : wr.cell? ⟨q1, (k + 1) * 13 + 3, none⟩ = some (.int .i64 (o ((k : Int), 3))) := T.row_range HOC.out k1 (show k < 5 by omega) 3 _ rfl
      have c4 : wr.cell? ⟨q1, (k + 1) * 13 + 4, none⟩ = some (.int .i64 (o ((k : Int), 4))) := T.row_range HOC.out k1 (show k < 5 by omega) 4 _ rfl
      have c5 : wr.cell? ⟨q1, (k + 1) * 13 + 5, none⟩ = some (.int .i64 (o ((k : Int), 5))) := T.row_range HOC.out k1 (show k < 5 by omega) 5 _ rfl
      have c6 : wr.cell? ⟨q1, (k + 1) * 13 + 6, none⟩ = some (.int .i64 (o ((k : Int), 6))) := T.row_range HOC.out k1 (show k < 5 by omega) 6 _ rfl
      have c7 : wr.cell? ⟨q1, (k + 1) * 13 + 7, none⟩ = some (.int .i64 (o ((k : Int), 7))) := T.row_range HOC.out k1 (show k < 5 by omega) 7 _ rfl
      have c8 : wr.cell? ⟨q1, (k + 1) * 13 + 8, none⟩ = some (.int .i64 (o ((k : Int), 8))) := T.row_range HOC.out k1 (show k < 5 by omega) 8 _ rfl
      have c9 : wr.cell? ⟨q1, (k + 1) * 13 + 9, none⟩ = some (.int .i64 (o ((k : Int), 9))) := T.row_range HOC.out k1 (show k < 5 by omega) 9 _ rfl
      have c10 : wr.cell? ⟨q1, (k + 1) * 13 + 10, none⟩ = some (.int .i64 (o ((k : Int), 10))) := T.row_range HOC.out k1 (show k < 5 by omega) 10 _ rfl
      have c11 : wr.cell? ⟨q1, (k + 1) * 13 + 11, none⟩ = some (.int .i64 (o ((k : Int), 11))) := T.row_range HOC.out k1 (show k < 5 by omega) 11 _ rfl
      have c12 : wr.cell? ⟨q1, (k + 1) * 13 + 12, none⟩ = some (.int .i64 (o ((k : Int), 12))) := T.row_range HOC.out k1 (show k < 5 by omega) 12 _ rfl
      obtain ⟨y0, hy0⟩ : ∃ x, o ((k : Int), 0) = x := ⟨_, rfl⟩
      obtain ⟨y1, hy1⟩ : ∃ x, o ((k : Int), 1) = x := ⟨_, rfl⟩
      obtain ⟨y2, hy2⟩ : ∃ x, o ((k : Int), 2) = x := ⟨_, rfl⟩
      obtain ⟨y3, hy3⟩ : ∃ x, o ((k : Int), 3) = x := ⟨_, rfl⟩
      obtain ⟨y4, hy4⟩ : ∃ x, o ((k : Int), 4) = x := ⟨_, rfl⟩
      obtain ⟨y5, hy5⟩ : ∃ x, o ((k : Int), 5) = x := ⟨_, rfl⟩
      obtain ⟨y6, hy6⟩ : ∃ x, o ((k : Int), 6) = x := ⟨_, rfl⟩
      obtain ⟨y7, hy7⟩ : ∃ x, o ((k : Int), 7) = x := ⟨_, rfl⟩
      obtain ⟨y8, hy8⟩ : ∃ x, o ((k : Int), 8) = x := ⟨_, rfl⟩
      obtain ⟨y9, hy9⟩ : ∃ x, o ((k : Int), 9) = x := ⟨_, rfl⟩
      obtain ⟨y10, hy10⟩ : ∃ x, o ((k : Int), 10) = x := ⟨_, rfl⟩
      obtain ⟨y11, hy11⟩ : ∃ x, o ((k : Int), 11) = x := ⟨_, rfl⟩
      obtain ⟨y12, hy12⟩ : ∃ x, o ((k : Int), 12) = x := ⟨_, rfl⟩
      rw [hy0] at c0
      rw [hy1] at c1
      rw [hy2] at c2
      rw [hy3] at c3
      rw [hy4] at c4
      rw [hy5] at c5
      rw [hy6] at c6
      rw [hy7] at c7
      rw [hy8] at c8
      rw [hy9] at c9
      rw [hy10] at c10
      rw [hy11] at c11
      rw [hy12] at c12
      have HK1 := Lib.hid k1
      have HYY := Lib.hid (And.intro hy0 (And.intro hy1 (And.intro hy2 (And.intro hy3 (And.intro hy4 (And.intro hy5 (And.intro hy6 (And.intro hy7 (And.intro hy8 (And.intro hy9 (And.intro hy10 (And.intro hy11 (hy12)))))))))))))
      clear hy0 hy1 hy2 hy3 hy4 hy5 hy6 hy7 hy8 hy9 hy10 hy11 hy12
      have d6 : k + 1 < 6 := by omega
      clear k1
      have HV := Lib.hid V
      have HO := Lib.hid hown
      go_wp2_with fail
      have g9 : mblk (wr.alloc (.cells #[.int .i64 y0, .int .i64 y1, .int .i64 y2, .int .i64 y3, .int .i64 y4, .int .i64 y5, .int .i64 y6, .int .i64 y7, .int .i64 y8, .int .i64 y9, .int .i64 y10, .int .i64 y11, .int .i64 y12] 85)) wr.heap.size = some (.cells #[.int .i64 y0, .int .i64 y1, .int .i64 y2, .int .i64 y3, .int .i64 y4, .int .i64 y5, .int .i64 y6, .int .i64 y7, .int .i64 y8, .int .i64 y9, .int .i64 y10, .int .i64 y11, .int .i64 y12] 85 (0, 0)) := blk_new _ _ _ rfl
      have k0' := blk_keep (.cells #[.int .i64 y0, .int .i64 y1, .int .i64 y2, .int .i64 y3, .int .i64 y4, .int .i64 y5, .int .i64 y6, .int .i64 y7, .int .i64 y8, .int .i64 y9, .int .i64 y10, .int .i64 y11, .int .i64 y12] 85) k0
      have k2' := blk_keep (.cells #[.int .i64 y0, .int .i64 y1, .int .i64 y2, .int .i64 y3, .int .i64 y4, .int .i64 y5, .int .i64 y6, .int .i64 y7, .int .i64 y8, .int .i64 y9, .int .i64 y10, .int .i64 y11, .int .i64 y12] 85) k2
      have hR13 : T.R13 #[.int .i64 y0, .int .i64 y1, .int .i64 y2, .int .i64 y3, .int .i64 y4, .int .i64 y5, .int .i64 y6, .int .i64 y7, .int .i64 y8, .int .i64 y9, .int .i64 y10, .int .i64 y11, .int .i64 y12] (fun (i : Nat) => if i < 0 then IntKind.i64.wrap (o ((k : Int), (i : Int)) * sg) else o ((k : Int), (i : Int))) := by
        obtain ⟨z0, z1, z2, z3, z4, z5, z6, z7, z8, z9, z10, z11, z12⟩ := HYY.out
        refine ⟨rfl, fun i hi => ?_⟩
        show _ = some (Value.int .i64 (if i < 0 then IntKind.i64.wrap (o ((k : Int), (i : Int)) * sg) else o ((k : Int), (i : Int))))
        rw [if_neg (Nat.not_lt_zero _)]
        match i, hi with
        | 0, _ => exact congrArg (fun x => some (Value.int .i64 x)) z0.symm
        | 1, _ => exact congrArg (fun x => some (Value.int .i64 x)) z1.symm
        | 2, _ => exact congrArg (fun x => some (Value.int .i64 x)) z2.symm
        | 3, _ => exact congrArg (fun x => some (Value.int .i64 x)) z3.symm
        | 4, _ => exact congrArg (fun x => some (Value.int .i64 x)) z4.symm
        | 5, _ => exact congrArg (fun x => some (Value.int .i64 x)) z5.symm
        | 6, _ => exact congrArg (fun x => some (Value.int .i64 x)) z6.symm
        | 7, _ => exact congrArg (fun x => some (Value.int .i64 x)) z7.symm
        | 8, _ => exact congrArg (fun x => some (Value.int .i64 x)) z8.symm
        | 9, _ => exact congrArg (fun x => some (Value.int .i64 x)) z9.symm
        | 10, _ => exact congrArg (fun x => some (Value.int .i64 x)) z10.symm
        | 11, _ => exact congrArg (fun x => some (Value.int .i64 x)) z11.symm
        | 12, _ => exact congrArg (fun x => some (Value.int .i64 x)) z12.symm
      obtain ⟨q9, e9⟩ : ∃ x, wr.heap.size = x := ⟨_, rfl⟩
      rw [e9] at g9 ⊢
      obtain ⟨W2, hW2⟩ : ∃ x, (wr.alloc (.cells #[.int .i64 y0, .int .i64 y1, .int .i64 y2, .int .i64 y3, .int .i64 y4, .int .i64 y5, .int .i64 y6, .int .i64 y7, .int .i64 y8, .int .i64 y9, .int .i64 y10, .int .i64 y11, .int .i64 y12] 85)) = x := ⟨_, rfl⟩
      rw [hW2] at g9 k0' k2' ⊢
      have k1' : mblk W2 q1 = some (.cells cs 87 (0, 0)) := by rw [← hW2]; exact blk_keep _ HK1.out
      have O2 := hown.alloc (.cells #[.int .i64 y0, .int .i64 y1, .int .i64 y2, .int .i64 y3, .int .i64 y4, .int .i64 y5, .int .i64 y6, .int .i64 y7, .int .i64 y8, .int .i64 y9, .int .i64 y10, .int .i64 y11, .int .i64 y12] 85)
      rw [hW2] at O2
      have n9 := row_ne O2 g9 (fun cs e => by cases e)
      have n1 : q1 < q9 := by rw [← e9]; exact blk_lt HK1.out
      have HRK := Lib.hid (fun wi (hG : W2.grownBy wi (some q9)) => hrw.out.keep (fun g cs h => grown_blk hG (by rw [← hW2]; exact blk_keep _ h) (fun e => by have hl := blk_lt h; have := Option.some.inj e; omega)))
      have HOK := Lib.hid (fun wi (hG : W2.grownBy wi (some q9)) => row_other O2 hG n9)
      have HVK := Lib.hid (fun wi (hG : W2.grownBy wi (some q9)) => Up.grown (show Up w W2 by rw [← hW2]; exact V.alloc _) hG (fun b e => by have hs := V.size; have := Option.some.inj e; omega))
      have HK1' := Lib.hid k1'
      have HW2 := Lib.hid hW2
      have HE9 := Lib.hid e9
      have n2 : q2 < q9 := by rw [← e9]; exact blk_lt k2
      have n0 : q0 < q9 := by rw [← e9]; exact blk_lt k0
      clear O2 n9 k1' hrw HK1
      clear hW2 e9 k0 k2 V hown c0 c1 c2 c3 c4 c5 c6 c7 c8 c9 c10 c11 c12 ew hsz
      go_loopw [23] (fun i wi => ∃ (j : Nat) (rc : Array Value), j ≤ 13 ∧ i = .int .i64 j ∧ Hid (T.R13 rc (fun (i : Nat) => if i < j then IntKind.i64.wrap (o ((k : Int), (i : Int)) * sg) else o ((k : Int), (i : Int)))) ∧ mblk wi q9 = some (.cells rc 85 (0, 0)) ∧ W2.grownBy wi (some q9)) (fun i _ => 13 - (intOf i).toNat)
      case atStart => exact ⟨0, _, by omega, rfl, Lib.hid hR13, g9, up_grown (Up.refl W2) _⟩
      case round =>
        clear g9 hR13
        obtain ⟨j, rc, hj, rfl, hrc, g9, hG⟩ := hrel
        have j2 := grown_blk hG k2' (fun e => by have := Option.some.inj e; omega)
        have j0 := grown_blk hG k0' (fun e => by have := Option.some.inj e; omega)
        have HJ := Lib.hid (And.intro j0 (And.intro j2 (And.intro g9 hG)))
        by_cases hjt : j < 13
        · have d2 : decide (j < 13) = true := decide_eq_true hjt
          have d3 : decide ((j : Int) < 13) = true := decide_eq_true (by omega)
          have ewj : IntKind.i64.wrap ((j : Int) + 1) = (j : Int) + 1 := IntWalk.i64_in _ (by omega)
          obtain ⟨y, hy⟩ : ∃ x, o ((k : Int), (j : Int)) = x := ⟨_, rfl⟩
          have cy : wr.cell? ⟨q9, j, none⟩ = some (.int .i64 y) := by
            rw [cellB g9, hrc.out.2 j hjt]
            show some (Value.int .i64 (if j < j then IntKind.i64.wrap (o ((k : Int), (j : Int)) * sg) else o ((k : Int), (j : Int)))) = _
            rw [if_neg (Nat.lt_irrefl j), hy]
          have cs1 : wr.cell? ⟨q2, 1, none⟩ = some (.int .i64 sg) := cellB j2 1
          obtain ⟨m, hm⟩ : ∃ x, IntKind.i64.wrap (y * sg) = x := ⟨_, rfl⟩
          have f9 := frozB g9
          have l9 := blk_lt g9
          have HY := Lib.hid hy
          have HM := Lib.hid hm
          have g9' := blk_put g9 j (.int .i64 m)
          have HG9 := Lib.hid g9'
          have HGG := Lib.hid (grown_trans hG (grown_set wr q9 j (.int .i64 m)))
          clear hy j0 j2 g9 g9' hG k0' k2' n2 n0
          go_wp2_with fail
          go_region
          go_wp2
          refine ⟨⟨j + 1, _, by omega, rfl, Lib.hid ((hrc.out.put hjt m).congr fun i hi => ?_), HG9.out, ⟨HGG.out.os, HGG.out.tape, HGG.out.output, HGG.out.size, HGG.out.block⟩⟩, by simp only [intOf]; omega⟩
          show (if i = j then m else if i < j then _ else _) = if i < j + 1 then _ else _
          by_cases a1 : i = j
          · subst a1
            rw [if_pos rfl, if_pos (Nat.lt_succ_self _), HY.out, HM.out]
          · rw [if_neg a1]
            by_cases a2 : i < j
            · rw [if_pos a2, if_pos (by omega)]
            · rw [if_neg a2, if_neg (by omega)]
        · have d2 : decide (j < 13) = false := decide_eq_false hjt
          have d3 : decide ((j : Int) < 13) = false := decide_eq_false (by omega)
          have hsl := T.sl13 hH q9 wr
          obtain rfl : j = 13 := by omega
          have hown := HOK.out wr hG
          have HR := Lib.hid (HRK.out wr hG)
          have HV2 := Lib.hid (HVK.out wr hG)
          have j1 := grown_blk hG HK1'.out (fun e => by have := Option.some.inj e; omega)
          have HJ1 := Lib.hid j1
          have hfin : T.R13 rc (fun (i : Nat) => IntKind.i64.wrap (o ((k : Int), (i : Int)) * sg)) := hrc.out.congr fun i hi => if_pos hi
          have HFIN := Lib.hid hfin
          have hbz : q2 + 1 ≤ wr.heap.size := by have := blk_lt g9; omega
          obtain ⟨i0, hi, hz0, hz1, hz2⟩ := info_parts infoInts
          have hU := Try.underlying27
          clear hfin j1 hrc g9 k0' k2' j2 hG HRK HOK HVK HYY
          go_wp2_with (at_builtin; refine wpList_append_own _ rfl (.tmp 34) (.tmp 46) 27 rfl (q2 + 1) 44 i0 (.slice none 0 0) 1 24 hU hi hz0 hz1 hz2 rfl (by decide) _ k us rfl (hown.alloc _) ⟨wr.heap.size, 0, none⟩ 1 1 [.slice (some ⟨q9, 0, none⟩) (H + 1) (H + 1)] rfl rfl (cell_one_new _ _ _) (by simp [Value.oneCell']) (by unfold maxLen; omega) (by omega) (by simp; omega) ?_; intro v' w6 hown6 hgrow6 hv6)
          have kk : ∀ b o, mblk wr b = some o → some b ≠ Value.ownBlock _ → mblk w6 b = some o := fun b o h hne => grown_blk hgrow6 (blk_keep _ h) hne
          have k9 := kk q9 _ HJ.out.2.2.1 (row_ne hown HJ.out.2.2.1 (fun cs e => by cases e))
          refine ⟨⟨k + 1, us ++ [.slice (some ⟨q9, 0, none⟩) (H + 1) (H + 1)], by omega, rfl, (HV2.out.alloc _).grown hgrow6 (fun b e => by have := row_base hown b e; have := HE.out; omega), kk q0 _ HJ.out.1 (row_block hown (by have := HE.out; omega)), kk q1 _ HJ1.out (row_block hown (by have := HE.out; omega)), kk q2 _ HJ.out.2.1 (row_block hown (by omega)), hown6, Lib.hid ((HR.out.keep fun g cs h => kk g _ h (row_ne hown h (fun cs e => by cases e))).add k9 HFIN.out), ?_⟩, by simp only [intOf]; omega⟩
          have := hgrow6.size
          rw [sz1] at this
          omega
    · have d1 : decide (k < nR) = false := decide_eq_false hlt
      obtain rfl : k = nR := by omega
      have HO := Lib.hid hown
      have HV := Lib.hid V
      clear k0 k1 k2 hown V hsz
      go_wp2
      go_ret
      exact ⟨⟨_, rfl, T.Rwp.rows hrw.out hH hR HO.out⟩, HV.out⟩
end

end Go.Proofs.Ytcmdaiklkdeanaa
