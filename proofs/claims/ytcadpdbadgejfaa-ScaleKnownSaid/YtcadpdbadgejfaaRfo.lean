import Derived.Test.YtcadpdbadgejfaaRfn
import Derived.Test.YtcadpdbadgejfaaRfm
import Derived.Test.YtcadpdbadgejfaaLkL
import Derived.OneCell
/- The contract of the reference's errors. -/
namespace Go.Proofs.Ytcadpdbadgejfaa
open Go.RowKit

/-- spans, one after another -/
def S.spn (o : S.Ofs) : Nat → List Value
  | 0 => []
  | k + 1 => S.spn o k ++ [.int .i64 (o k).1, .int .i64 (o k).2]
theorem S.spn_len (o : S.Ofs) (n : Nat) : (S.spn o n).length = n * 2 := by
  induction n with
  | zero => rfl
  | succ n ih => show (S.spn o n ++ _).length = _; rw [List.length_append, ih]; simp; omega
theorem S.spn_at (o : S.Ofs) {k : Nat} : ∀ n, k < n → (S.spn o n)[k * 2]? = some (.int .i64 (o k).1) ∧ (S.spn o n)[k * 2 + 1]? = some (.int .i64 (o k).2) := by
  intro n
  induction n with
  | zero => intro h; omega
  | succ n ih =>
    intro h
    show (S.spn o n ++ _)[k * 2]? = _ ∧ (S.spn o n ++ _)[k * 2 + 1]? = _
    by_cases e : k < n
    · rw [List.getElem?_append_left (by rw [S.spn_len]; omega), List.getElem?_append_left (by rw [S.spn_len]; omega)]
      exact ih e
    · obtain rfl : k = n := by omega
      rw [List.getElem?_append_right (by rw [S.spn_len]; omega), List.getElem?_append_right (by rw [S.spn_len]; omega), S.spn_len]
      constructor
      · rw [Nat.sub_self]; rfl
      · rw [show k * 2 + 1 - k * 2 = 1 by omega]; rfl
theorem S.spn_ext {o o' : S.Ofs} {n : Nat} (h : ∀ t, t < n → o t = o' t) : S.spn o n = S.spn o' n := by
  induction n with
  | zero => rfl
  | succ n ih => show S.spn o n ++ _ = S.spn o' n ++ _; rw [ih (fun t ht => h t (by omega)), h n (by omega)]
theorem S.spn_put (o : S.Ofs) (n : Nat) (x y : Int) : S.spn (S.put o n (x, y)) (n + 1) = S.spn o n ++ [.int .i64 x, .int .i64 y] := by
  show S.spn (S.put o n (x, y)) n ++ [.int .i64 (S.put o n (x, y) n).1, .int .i64 (S.put o n (x, y) n).2] = _
  rw [S.put_self, S.spn_ext (fun t ht => S.put_ne o (x, y) (show t ≠ n by omega))]
theorem row_put2 {W : World} {base size n : Nat} {e : TypeId} {v : Value} {xs : List Value} (h : W.ownsRow base e size v n xs) {p : Nat} (hp : v.ownBlock ≠ some p) (x y : Value) : ((W.setCell ⟨p, 0, none⟩ x).setCell ⟨p, 1, none⟩ y).ownsRow base e size v n xs :=
  ownsRow_setCell_other (ownsRow_setCell_other h (a := ⟨p, 0, none⟩) hp x) (a := ⟨p, 1, none⟩) hp y
/-- spans in an array of cells -/
def S.Arr2 (cur : Array Value) (o : S.Ofs) (n : Nat) : Prop := ∀ t, t < n → cur[t * 2]? = some (.int .i64 (o t).1) ∧ cur[t * 2 + 1]? = some (.int .i64 (o t).2)
theorem S.Arr2.put {cur : Array Value} {o : S.Ofs} {n t : Nat} (h : S.Arr2 cur o n) (ht : t < n) (x y : Int) : S.Arr2 ((cur.setIfInBounds (t * 2) (.int .i64 x)).setIfInBounds (t * 2 + 1) (.int .i64 y)) (S.put o t (x, y)) n := by
  intro u hu
  have a := h u hu
  have l1 : t * 2 < cur.size := (Array.getElem?_eq_some_iff.1 (h t ht).1).1
  have l2 : t * 2 + 1 < cur.size := (Array.getElem?_eq_some_iff.1 (h t ht).2).1
  by_cases e : u = t
  · subst e
    rw [S.put_self]
    constructor
    · rw [Array.getElem?_setIfInBounds_ne (by omega), Array.getElem?_setIfInBounds_self_of_lt (by omega)]
    · rw [Array.getElem?_setIfInBounds_self_of_lt (by simp; omega)]
  · rw [S.put_ne _ _ e]
    constructor
    · rw [Array.getElem?_setIfInBounds_ne (by omega), Array.getElem?_setIfInBounds_ne (by omega)]; exact a.1
    · rw [Array.getElem?_setIfInBounds_ne (by omega), Array.getElem?_setIfInBounds_ne (by omega)]; exact a.2
theorem S.Arr2.of_row {W : World} {base n : Nat} {v : Value} {o : S.Ofs} (ho : W.ownsRow base 23 2 v n (S.spn o n)) (hn : 0 < n) : ∃ g cap cur, v = .slice (some ⟨g, 0, none⟩) n cap ∧ base ≤ g ∧ mblk W g = some (.cells cur 23 (0, 0)) ∧ n ≤ cap ∧ cap ≤ maxLen ∧ S.Arr2 cur o n := by
  obtain ⟨g, cap, cur, h1, h2, h3, h4, h5, h6, h7⟩ := row_open ho hn
  refine ⟨g, cap, cur, h1, h2, h3, h4, h5, fun t ht => ?_⟩
  obtain ⟨y0, y1⟩ := S.spn_at o n ht
  have old : ∀ m u, m < n * 2 → (S.spn o n)[m]? = some u → cur[m]? = some u := fun m u hm h => by
    rw [← h7, List.getElem?_take_of_lt hm, Array.getElem?_toList] at h
    exact h
  exact ⟨old _ _ (by omega) y0, old _ _ (by omega) y1⟩
section
variable {f s j : Int} {a a' : Option Addr} {n c n' c' : Nat}
set_option maxRecDepth 100000 in
set_option maxHeartbeats 4000000 in
theorem r_errors_any {b : S.Bk} (hb : b.Good) (hlh : b.lo ≤ b.hi) {w : World} (I : Ints w (.slice a n c) b.steer) (I' : Lks w (.slice a' n' c') b.looks) : Calls Try.prog 76 #[BV f s j b.lo b.hi b.ticks (.slice a n c) (.slice a' n' c')] w fun e w' => Up w w' ∧ ((∃ g cap cur o, e = .returned (.tuple #[.slice (some ⟨g, 0, none⟩) (b.ticks + 1) cap, .bool true]) ∧ mblk w' g = some (.cells cur 23 (0, 0)) ∧ b.ticks + 1 ≤ cap ∧ S.Arr2 cur o (b.ticks + 1) ∧ ∀ t, t ≤ b.ticks → b.Ends t (o t).1 (o t).2) ∨ (e = .returned (.tuple #[.slice none 0 0, .bool false]) ∧ ∀ v, ¬ b.Tru v)) := by
  have U0 := (Up.refl w).alloc (.cells (BC f s j b.lo b.hi b.ticks (.slice a n c) (.slice a' n' c')) 44)
  have k1 := blk_new w (.cells (BC f s j b.lo b.hi b.ticks (.slice a n c) (.slice a' n' c')) 44) _ rfl
  have HTo := Lib.hid (fun l h w => B_To_any l h w)
  have HBo := Lib.hid (fun l h l' h' w => B_Both_any l h l' h' w)
  have hcs := Lib.hid (fun (k : Nat) => show b.cL k ≤ b.cH k by show b.steer.getD k 0 + b.lo ≤ b.steer.getD k 0 + b.hi; omega)
  have hcb := Lib.hid (fun (k : Nat) => hb.cb k)
  have HCh := Lib.hid (fun (k : Nat) w' (u : Up w w') => show Calls Try.prog 94 #[BV f s j b.lo b.hi b.ticks (.slice a n c) (.slice a' n' c'), .int .i64 k] w' fun e w'' => e = .returned (SpV (b.cL k) (b.cH k)) ∧ Up w' w'' from r_change_any (f := f) (s := s) (j := j) (ticks := (b.ticks : Int)) (a' := a') (n' := n') (c' := c') (I.up u) k (hb.st k) hb.d1 hb.d2)
  have tn1 := hb.t1
  have tn2 := hb.t2
  have HI' := Lib.hid (fun w' (u : Up w w') => I'.up u)
  have hln := I.len
  have hln' := I'.len.1
  have hl63 := I'.len.2
  subst hln hln'
  obtain ⟨i0, hi, hz0, hz1, hz2⟩ := info_parts infoSpan
  have hU := Try.underlying94
  obtain ⟨lb, hlb⟩ : ∃ x, b.lo = x := ⟨_, rfl⟩
  obtain ⟨hbb, hhb⟩ : ∃ x, b.hi = x := ⟨_, rfl⟩
  obtain ⟨tN, htN⟩ : ∃ x, b.ticks = x := ⟨_, rfl⟩
  obtain ⟨nls, hnl⟩ : ∃ x, b.looks.length = x := ⟨_, rfl⟩
  obtain ⟨nst, hns⟩ : ∃ x, b.steer.length = x := ⟨_, rfl⟩
  rw [hlb, hhb, htN, hnl, hns] at HCh k1 U0
  rw [hlb, hhb, htN, hnl, hns]
  rw [hnl] at HI' hl63
  rw [htN] at tn1 tn2
  have HT := Lib.hid htN
  have HN := Lib.hid hnl
  clear hb hlh I I' hlb hhb htN hnl hns
  go_enter Try.func76, Try.ntmps76
  go_wp2_with fail
  go_loopw [5, 4] (fun i l wr => ∃ (t : Nat) (o : S.Ofs), t ≤ tN + 1 ∧ i = .int .i64 t ∧ Hid (b.Fwd o t) ∧ wr.ownsRow (w.heap.size + 1) 23 2 l t (S.spn o t) ∧ Up w wr ∧ mblk wr w.heap.size = some (.cells (BC f s j lb hbb tN (.slice a nst c) (.slice a' nls c')) 44 (0, 0))) (fun i _ _ => tN + 1 - (intOf i).toNat)
  case atStart => exact ⟨0, S.ofs0, Nat.zero_le _, rfl, S.Bk.Fwd.start b S.ofs0, World.ownsRow_nil _ _ _ _, U0, k1⟩
  case round =>
    clear U0 k1
    obtain ⟨t, o, ht, rfl, hF, hown, V, k1⟩ := hrel
    by_cases hlt : t ≤ tN
    · have hlt' : (t : Int) ≤ (tN : Int) := by omega
      go_wp2_with fail
      refine (HTo.out (-20000) 20000 _).mono ?_
      rintro e w1 ⟨rfl, u1⟩
      replace k1 := u1.blk k1
      replace hown := row_up hown u1
      replace V := V.trans u1
      clear u1
      have V2 := V.alloc (.cells #[.int .i64 (-20000), .int .i64 20000] 23)
      have z1 := V.size
      have hne0 : ∀ k, u4.ownBlock = some k → k < w1.heap.size := fun k e => (hown.lt k e).2
      have hown2 := hown.alloc (.cells #[.int .i64 (-20000), .int .i64 20000] 23)
      have k2 := blk_keep (.cells #[.int .i64 (-20000), .int .i64 20000] 23) k1
      have p2 := blk_new w1 (.cells #[.int .i64 (-20000), .int .i64 20000] 23) _ rfl
      have lk := blk_lt k1
      obtain ⟨p, hp⟩ : ∃ p, w1.heap.size = p := ⟨_, rfl⟩
      obtain ⟨W2, hW2⟩ : ∃ W, w1.alloc (.cells #[.int .i64 (-20000), .int .i64 20000] 23) = W := ⟨_, rfl⟩
      rw [hp] at p2 z1 lk hne0
      have hne : u4.ownBlock ≠ some p := fun e => Nat.lt_irrefl _ (hne0 p e)
      clear hne0
      rw [hW2] at V2 hown2 k2 p2
      have hpp : w.heap.size < p := lk
      clear V hown k1 lk
      by_cases h0 : t = 0
      · have hT0 : ¬ (0 : Int) < (t : Int) := by omega
        have dT0 : decide (0 < t) = false := decide_eq_false (by omega)
        have HC0 : Hid (b.Cur o t 0 (-20000, 20000)) := Lib.hid (by rw [h0]; exact S.Bk.Cur.zero b o)
        have p3 := p2
        clear p2 h0
        go_wp2_with fail
        try rw [hW2]
        try rw [hp]
        clear hW2 hp
        go_loopw [8] (fun i wr => ∃ (k : Nat) (sl sh : Int), k ≤ nls ∧ i = .int .i64 k ∧ Hid (b.Cur o t k (sl, sh)) ∧ Up w wr ∧ mblk wr w.heap.size = some (.cells (BC f s j lb hbb tN (.slice a nst c) (.slice a' nls c')) 44 (0, 0)) ∧ mblk wr p = some (.cells #[.int .i64 sl, .int .i64 sh] 23 (0, 0)) ∧ wr.ownsRow (w.heap.size + 1) 23 2 u4 t (S.spn o t)) (fun i _ => nls - (intOf i).toNat)
        case atStart => exact ⟨0, _, _, Nat.zero_le _, rfl, HC0, V2, k2, p3, hown2⟩
        case round =>
          clear V2 k2 p3 hown2 HC0
          obtain ⟨k, sl, sh, hk, rfl, hC, V2, k2, p3, hown2⟩ := hrel
          by_cases hkl : k < nls
          · have hkl' : (k : Int) < (nls : Int) := by omega
            obtain ⟨a1, c1, e1, _, _, hm⟩ := (HI'.out _ V2).is
            injection e1 with e1 e2 e3
            subst e1 e3
            clear e2
            have hlk : k < b.looks.length := by rw [HN.out]; exact hkl
            obtain ⟨g', off, rfl, gl, hc⟩ := hm (by omega)
            obtain ⟨x1, x2, x3⟩ := hc k hlk
            obtain ⟨z, hz⟩ : ∃ z, b.looks.getD k (0, 0, 0) = z := ⟨_, rfl⟩
            rw [hz] at x1 x2 x3
            obtain ⟨lt, ll, lh⟩ := z
            simp only at x1 x2 x3
            by_cases he : lt = (t : Int)
            · subst he
              have HC1 := Lib.hid (hC.out.look_in (show t ≤ b.ticks by rw [HT.out]; omega) hlk hz)
              have HB2 := Lib.hid (HBo.out sl sh ll lh)
              obtain ⟨nl, hnl⟩ : ∃ q, max sl ll = q := ⟨_, rfl⟩
              obtain ⟨nh, hnh⟩ : ∃ q, min sh lh = q := ⟨_, rfl⟩
              have ebo : S.bo (sl, sh) (ll, lh) = (nl, nh) := by rw [← hnl, ← hnh]; rfl
              rw [ebo] at HC1
              rw [hnl, hnh] at HB2
              clear hnl hnh ebo hlk hz hc hm hC
              go_wp2_with fail
              refine (wpIn_wide (n := 5)).1 ?_
              refine wpIn_nrm ?_
              refine regionG (fun w' => (Up w w' ∧ w'.ownsRow (w.heap.size + 1) 23 2 u4 t (S.spn o t)) ∧ mblk w' w.heap.size = some (.cells (BC f s j lb hbb tN (.slice a nst c) (.slice (some ⟨g', off, none⟩) nls c')) 44 (0, 0)) ∧ mblk w' p = some (.cells #[.int .i64 sl, .int .i64 sh] 23 (0, 0)) ∧ w'.cell? ⟨g', off + k * 3 + 1, none⟩ = some (.int .i64 ll) ∧ w'.cell? ⟨g', off + k * 3 + 2, none⟩ = some (.int .i64 lh)) 8 (by kernel_rfl) ⟨⟨V2.drew, row_up hown2 (Up.refl _).drew⟩, by rw [blk_drew]; exact k2, by rw [blk_drew]; exact p3, x2, x3⟩ (fun hHeld hCl => ?_)
              clear V2 k2 hown2 p3 x1 x2 x3
              refine takeG (i := 0) (d := (some 60)) (v := ?v1) rfl rfl (by kernel_rfl) (by kernel_rfl) (by decide) hCl (by kernel_rfl) (by kernel_rfl) (by kernel_rfl) (fun _ _ _ h => h) (by rfl) ?hy1 (fun _ _ _ => trivial) (by assumption) (fun hCl' => ?_)
              case hy1 => ((intro w hSw; (try dsimp only at hSw); (try go_split_ands); go_simp); try with_reducible rfl)
              simp only [Act.put, List.setIfInBounds_toArray, List.set_cons_zero, List.set_cons_succ]
              replace hCl := hCl'; clear hCl'
              refine takeG (i := 1) (d := (some 61)) (v := ?v2) rfl rfl (by kernel_rfl) (by kernel_rfl) (by decide) hCl (by kernel_rfl) (by kernel_rfl) (by kernel_rfl) (fun _ _ _ h => h) (by rfl) ?hy2 (fun _ _ _ => trivial) (by assumption) (fun hCl' => ?_)
              case hy2 => ((intro w hSw; (try dsimp only at hSw); (try go_split_ands); go_simp); try with_reducible rfl)
              simp only [Act.put, List.setIfInBounds_toArray, List.set_cons_zero, List.set_cons_succ]
              replace hCl := hCl'; clear hCl'
              refine takeG (i := 3) (d := (some 63)) (v := ?v3) rfl rfl (by kernel_rfl) (by kernel_rfl) (by decide) hCl (by kernel_rfl) (by kernel_rfl) (by kernel_rfl) (fun _ _ _ h => h) (by rfl) ?hy3 (fun _ _ _ => trivial) (by assumption) (fun hCl' => ?_)
              case hy3 => ((intro w hSw; (try dsimp only at hSw); (try go_split_ands); go_simp); try with_reducible rfl)
              simp only [Act.put, List.setIfInBounds_toArray, List.set_cons_zero, List.set_cons_succ]
              replace hCl := hCl'; clear hCl'
              refine takeG (i := 2) (d := (some 62)) (v := ?v4) rfl rfl (by kernel_rfl) (by kernel_rfl) (by decide) hCl (by kernel_rfl) (by kernel_rfl) (by kernel_rfl) (fun _ _ _ h => h) (by rfl) ?hy4 (fun _ _ _ => trivial) (by assumption) (fun hCl' => ?_)
              case hy4 => ((intro w hSw; (try dsimp only at hSw); (try go_split_ands); go_simp); try with_reducible rfl)
              simp only [Act.put, List.setIfInBounds_toArray, List.set_cons_zero, List.set_cons_succ]
              replace hCl := hCl'; clear hCl'
              refine takeG (i := 4) (d := (some 64)) (v := ?v5) rfl rfl (by kernel_rfl) (by kernel_rfl) (by decide) hCl (by kernel_rfl) (by kernel_rfl) (by kernel_rfl) (fun _ _ _ h => h) (by rfl) ?hy5 (fun _ _ _ => trivial) (by assumption) (fun hCl' => ?_)
              case hy5 => ((intro w hSw; (try dsimp only at hSw); (try go_split_ands); go_simp); try with_reducible rfl)
              simp only [Act.put, List.setIfInBounds_toArray, List.set_cons_zero, List.set_cons_succ]
              replace hCl := hCl'; clear hCl'
              refine takeG (i := 5) (d := (some 65)) (v := ?v6) rfl rfl (by kernel_rfl) (by kernel_rfl) (by decide) hCl (by kernel_rfl) (by kernel_rfl) (by kernel_rfl) (fun _ _ _ h => h) (by rfl) ?hy6 (fun _ _ _ => trivial) (by assumption) (fun hCl' => ?_)
              case hy6 => ((intro w hSw; (try dsimp only at hSw); (try go_split_ands); go_simp); try with_reducible rfl)
              simp only [Act.put, List.setIfInBounds_toArray, List.set_cons_zero, List.set_cons_succ]
              replace hCl := hCl'; clear hCl'
              refine takeG (i := 6) (d := (some 66)) (v := ?v7) rfl rfl (by kernel_rfl) (by kernel_rfl) (by decide) hCl (by kernel_rfl) (by kernel_rfl) (by kernel_rfl) (fun _ _ _ h => h) (by rfl) ?hy7 (fun _ _ _ => trivial) (by assumption) (fun hCl' => ?_)
              case hy7 => ((intro w hSw; (try dsimp only at hSw); (try go_split_ands); go_simp); try with_reducible rfl)
              simp only [Act.put, List.setIfInBounds_toArray, List.set_cons_zero, List.set_cons_succ]
              replace hCl := hCl'; clear hCl'
              refine nextG (i := 7) (by kernel_rfl) rfl (by rfl) hCl (fun K hK => ?_)
              go_simp
              refine ⟨trivial, (callsIn_wide.2 (HB2.out _)).mono ?_⟩
              rintro e w7 ⟨rfl, u7⟩
              refine hK.out _ _ ⟨⟨hHeld.1.1.trans u7, row_up hHeld.1.2 u7⟩, u7.blk hHeld.2.1, u7.blk hHeld.2.2.1, u7.cell2 hHeld.2.2.2.1, u7.cell2 hHeld.2.2.2.2⟩ (fun hHeld hCl => ?_)
              clear hK K u7 HB2
              obtain ⟨⟨V8, hown8⟩, k8, p8, _⟩ := hHeld
              have zf := frozB p8
              clear hCl
              refine lastG (i := 8) (by kernel_rfl) rfl (by rfl) (by decide) (fun K hK => ?_)
              go_simp
              have V2 := (V8.set (p := ⟨p, 0, none⟩) (show w.heap.size ≤ p by omega) (.int .i64 nl)).set (p := ⟨p, 1, none⟩) (show w.heap.size ≤ p by omega) (.int .i64 nh)
              have k2 := k8
              rw [← blk_set w7 ⟨p, 0, none⟩ (.int .i64 nl) w.heap.size (by show w.heap.size ≠ p; omega), ← blk_set (w7.setCell ⟨p, 0, none⟩ (.int .i64 nl)) ⟨p, 1, none⟩ (.int .i64 nh) w.heap.size (by show w.heap.size ≠ p; omega)] at k2
              have p3 : mblk ((w7.setCell ⟨p, 0, none⟩ (.int .i64 nl)).setCell ⟨p, 1, none⟩ (.int .i64 nh)) p = some (.cells #[.int .i64 nl, .int .i64 nh] 23 (0, 0)) := blk_put (blk_put p8 0 (.int .i64 nl)) 1 (.int .i64 nh)
              have hown2 := row_put2 hown8 hne (.int .i64 nl) (.int .i64 nh)
              obtain ⟨W9, hW9⟩ : ∃ W, (w7.setCell ⟨p, 0, none⟩ (.int .i64 nl)).setCell ⟨p, 1, none⟩ (.int .i64 nh) = W := ⟨_, rfl⟩
              rw [hW9] at V2 k2 p3 hown2
              try rw [hW9]
              refine hK.out _ _ ?_
              clear hK K hW9 V8 k8 hown8 p8 zf
              refine doneG (by kernel_rfl) ?_ _
              refine S.nrm_intro ?_
              go_wp2_with fail
              go_roundw
              case rel => exact ⟨k + 1, nl, nh, by omega, by go_num, HC1.out, V2, k2, p3, hown2⟩
              case measure => simp [intOf]; omega
            · have HC1 := Lib.hid (hC.out.look_out hlk (by rw [hz]; exact he))
              clear hlk hz hc hm hC
              go_wp2_with fail
              go_roundw
              case rel => exact ⟨k + 1, sl, sh, by omega, by go_num, HC1.out, V2, k2, p3, hown2⟩
              case measure => simp [intOf]; omega
          · by_cases hsl : sh < sl
            · have HNo := Lib.hid (hC.out.none hsl)
              have hkl' : ¬ (k : Int) < (nls : Int) := by omega
              clear hC hF
              go_wp2
              go_ret2
              exact ⟨V2, .inr ⟨rfl, HNo.out⟩⟩
            · have HFw := Lib.hid (hC.out.done hF.out (by rw [HN.out]; omega) (show sl ≤ sh by omega))
              have hkl' : ¬ (k : Int) < (nls : Int) := by omega
              have ls := V2.size
              have lk := blk_lt k2
              have HSp := Lib.hid (S.spn_put o t sl sh)
              clear hC hF
              go_wp2_with (at_builtin; refine wpList_append_own _ rfl (.tmp 73) (.tmp 75) 94 rfl (w.heap.size + 1) 23 i0 (.agg #[.int .i64 0, .int .i64 0]) 2 16 hU hi hz0 hz1 hz2 rfl (by decide) _ t _ rfl (hown2.alloc _) ⟨wr.heap.size, 0, none⟩ 1 1 [.int .i64 sl, .int .i64 sh] rfl rfl (cell_two_new _ _ _ _) (by simp [Value.oneCell']) (by unfold maxLen; omega) (by omega) (by simp; omega) ?_; intro v' w5 hown5 hgrow5 hv5)
              have x0 := grown_blk hgrow5 (blk_keep _ k2) (row_block hown2 (by omega))
              have U5 : Up w w5 := (V2.alloc _).grown hgrow5 (fun k e => by have := row_base hown2 k e; omega)
              go_roundw
              case rel => exact ⟨t + 1, _, by omega, by go_num, HFw.out, by rw [HSp.out]; exact hown5, U5, x0⟩
              case measure => simp [intOf]; omega
      · obtain ⟨u, rfl⟩ : ∃ u, t = u + 1 := ⟨t - 1, by omega⟩
        obtain ⟨T, hT⟩ : ∃ T, u + 1 = T := ⟨_, rfl⟩
        have hTi : (T : Int) - 1 = u := by omega
        have wT : IntKind.i64.wrap ((T : Int) - 1) = (u : Int) := by rw [hTi]; exact IntWalk.i64_in _ (by omega)
        have hT0 : (0 : Int) < (T : Int) := by omega
        have huT : (u : Int) < (T : Int) := by omega
        have HC0 := Lib.hid (S.Bk.Cur.succ hF.out (by rw [HT.out]; omega))
        have fo := hF.out.fine u (by omega)
        have cb := hcb.out u
        have y0 := (S.spn_at o (u + 1) (Nat.lt_succ_self u)).1
        have y1 := (S.spn_at o (u + 1) (Nat.lt_succ_self u)).2
        obtain ⟨g, cap, rfl, hg⟩ := row_slice hown2
        have x0 := row_at hown2 y0
        have x1 := row_at hown2 y1
        have HCu := Lib.hid (HCh.out u _ V2)
        obtain ⟨cl, hcl⟩ : ∃ x, b.cL u = x := ⟨_, rfl⟩
        obtain ⟨ch, hch⟩ : ∃ x, b.cH u = x := ⟨_, rfl⟩
        obtain ⟨ol, hol⟩ : ∃ x, (o u).1 = x := ⟨_, rfl⟩
        obtain ⟨oh, hoh⟩ : ∃ x, (o u).2 = x := ⟨_, rfl⟩
        rw [hcl, hch] at HCu HC0 cb
        rw [hol, hoh] at HC0 fo
        rw [hol] at x0
        rw [hoh] at x1
        rw [hT] at hF hlt hlt' HC0 hown2 hne ⊢
        have wa : IntKind.i64.wrap (ol + cl) = ol + cl := IntWalk.i64_in _ (by omega)
        have wb : IntKind.i64.wrap (oh + ch) = oh + ch := IntWalk.i64_in _ (by omega)
        have HT2 := Lib.hid (HTo.out (ol + cl) (oh + ch))
        have HB2 := Lib.hid (HBo.out (-20000) 20000 (ol + cl) (oh + ch))
        obtain ⟨n1, hn1⟩ : ∃ x, ol + cl = x := ⟨_, rfl⟩
        obtain ⟨n2, hn2⟩ : ∃ x, oh + ch = x := ⟨_, rfl⟩
        rw [hn1] at wa
        rw [hn2] at wb
        rw [hn1, hn2] at HT2 HB2 HC0
        obtain ⟨m1, hm1⟩ : ∃ x, max (-20000) n1 = x := ⟨_, rfl⟩
        obtain ⟨m2, hm2⟩ : ∃ x, min 20000 n2 = x := ⟨_, rfl⟩
        rw [hm1, hm2] at HB2
        have hbo : S.bo (-20000, 20000) (n1, n2) = (m1, m2) := by rw [← hm1, ← hm2]; rfl
        rw [hbo] at HC0
        have wa' : IntKind.i64.wrap (ol + cl) = n1 := by rw [hn1]; exact wa
        have wb' : IntKind.i64.wrap (oh + ch) = n2 := by rw [hn2]; exact wb
        clear hcl hch hol hoh hn1 hn2 hm1 hm2 hbo fo cb y0 y1 h0 hTi ht hT wa wb
        go_wp2_with fail
        try rw [hW2]
        try rw [hp]
        refine HCu.out.mono ?_
        rintro e w3 ⟨rfl, u3⟩
        clear hW2 hp HCu
        have z3 := (V2.trans u3).size
        have q4 := blk_new w3 (.cells #[.int .i64 cl, .int .i64 ch] 23) _ rfl
        have V4 := (V2.trans u3).alloc (.cells #[.int .i64 cl, .int .i64 ch] 23)
        have k4 := blk_keep (.cells #[.int .i64 cl, .int .i64 ch] 23) (u3.blk k2)
        have p4 := blk_keep (.cells #[.int .i64 cl, .int .i64 ch] 23) (u3.blk p2)
        have lp := blk_lt (u3.blk p2)
        have hown4 := (row_up hown2 u3).alloc (.cells #[.int .i64 cl, .int .i64 ch] 23)
        have c4 := Up.cell2 ((Up.refl w3).alloc (.cells #[.int .i64 cl, .int .i64 ch] 23)) (u3.cell2 x0)
        have d4 := Up.cell2 ((Up.refl w3).alloc (.cells #[.int .i64 cl, .int .i64 ch] 23)) (u3.cell2 x1)
        obtain ⟨q, hq⟩ : ∃ p, w3.heap.size = p := ⟨_, rfl⟩
        obtain ⟨W4, hW4⟩ : ∃ W, w3.alloc (.cells #[.int .i64 cl, .int .i64 ch] 23) = W := ⟨_, rfl⟩
        rw [hq] at q4 z3 lp
        rw [hW4] at q4 V4 k4 p4 hown4 c4 d4
        clear V2 hown2 k2 p2 x0 x1 u3
        go_wp2_with fail
        try rw [hW4]
        try rw [hq]
        clear hW4 hq
        refine (wpIn_wide (n := 5)).1 ?_
        refine wpIn_nrm ?_
        refine regionG (fun w' => (Up w w' ∧ mblk w' w.heap.size = some (.cells (BC f s j lb hbb tN (.slice a nst c) (.slice a' nls c')) 44 (0, 0)) ∧ w'.ownsRow (w.heap.size + 1) 23 2 (.slice (some ⟨g, 0, none⟩) T cap) T (S.spn o T)) ∧ mblk w' p = some (.cells #[.int .i64 (-20000), .int .i64 20000] 23 (0, 0)) ∧ mblk w' q = some (.cells #[.int .i64 cl, .int .i64 ch] 23 (0, 0)) ∧ w'.cell? ⟨g, u * 2, none⟩ = some (.int .i64 ol) ∧ w'.cell? ⟨g, u * 2 + 1, none⟩ = some (.int .i64 oh)) 21 (by kernel_rfl) ⟨⟨V4.drew, by rw [blk_drew]; exact k4, row_up hown4 (Up.refl _).drew⟩, by rw [blk_drew]; exact p4, by rw [blk_drew]; exact q4, c4, d4⟩ (fun hHeld hCl => ?_)
        clear V4 k4 hown4 p4 q4 c4 d4
        refine takeG (i := 0) (d := (some 24)) (v := ?v10) rfl rfl (by kernel_rfl) (by kernel_rfl) (by decide) hCl (by kernel_rfl) (by kernel_rfl) (by kernel_rfl) (fun _ _ _ h => h) (by rfl) ?hy10 (fun _ _ _ => trivial) (by assumption) (fun hCl' => ?_)
        case hy10 => ((intro w hSw; (try dsimp only at hSw); (try go_split_ands); go_simp); try with_reducible rfl)
        simp only [Act.put, List.setIfInBounds_toArray, List.set_cons_zero, List.set_cons_succ]
        replace hCl := hCl'; clear hCl'
        refine takeG (i := 1) (d := (some 25)) (v := ?v11) rfl rfl (by kernel_rfl) (by kernel_rfl) (by decide) hCl (by kernel_rfl) (by kernel_rfl) (by kernel_rfl) (fun _ _ _ h => h) (by rfl) ?hy11 (fun _ _ _ => trivial) (by assumption) (fun hCl' => ?_)
        case hy11 => ((intro w hSw; (try dsimp only at hSw); (try go_split_ands); go_simp); try with_reducible rfl)
        simp only [Act.put, List.setIfInBounds_toArray, List.set_cons_zero, List.set_cons_succ]
        replace hCl := hCl'; clear hCl'
        refine takeG (i := 2) (d := (some 26)) (v := ?v12) rfl rfl (by kernel_rfl) (by kernel_rfl) (by decide) hCl (by kernel_rfl) (by kernel_rfl) (by kernel_rfl) (fun _ _ _ h => h) (by rfl) ?hy12 (fun _ _ _ => trivial) (by assumption) (fun hCl' => ?_)
        case hy12 => ((intro w hSw; (try dsimp only at hSw); (try go_split_ands); go_simp); try with_reducible rfl)
        simp only [Act.put, List.setIfInBounds_toArray, List.set_cons_zero, List.set_cons_succ]
        replace hCl := hCl'; clear hCl'
        refine takeG (i := 7) (d := (some 31)) (v := ?v13) rfl rfl (by kernel_rfl) (by kernel_rfl) (by decide) hCl (by kernel_rfl) (by kernel_rfl) (by kernel_rfl) (fun _ _ _ h => h) (by rfl) ?hy13 (fun _ _ _ => trivial) (by assumption) (fun hCl' => ?_)
        case hy13 => ((intro w hSw; (try dsimp only at hSw); (try go_split_ands); go_simp); try with_reducible rfl)
        simp only [Act.put, List.setIfInBounds_toArray, List.set_cons_zero, List.set_cons_succ]
        replace hCl := hCl'; clear hCl'
        refine takeG (i := 10) (d := (some 34)) (v := ?v14) rfl rfl (by kernel_rfl) (by kernel_rfl) (by decide) hCl (by kernel_rfl) (by kernel_rfl) (by kernel_rfl) (fun _ _ _ h => h) (by rfl) ?hy14 (fun _ _ _ => trivial) (by assumption) (fun hCl' => ?_)
        case hy14 => ((intro w hSw; (try dsimp only at hSw); (try go_split_ands); go_simp); try with_reducible rfl)
        simp only [Act.put, List.setIfInBounds_toArray, List.set_cons_zero, List.set_cons_succ]
        replace hCl := hCl'; clear hCl'
        refine takeG (i := 11) (d := (some 35)) (v := ?v15) rfl rfl (by kernel_rfl) (by kernel_rfl) (by decide) hCl (by kernel_rfl) (by kernel_rfl) (by kernel_rfl) (fun _ _ _ h => h) (by rfl) ?hy15 (fun _ _ _ => trivial) (by assumption) (fun hCl' => ?_)
        case hy15 => ((intro w hSw; (try dsimp only at hSw); (try go_split_ands); go_simp); try with_reducible rfl)
        simp only [Act.put, List.setIfInBounds_toArray, List.set_cons_zero, List.set_cons_succ]
        replace hCl := hCl'; clear hCl'
        refine takeG (i := 16) (d := (some 40)) (v := ?v16) rfl rfl (by kernel_rfl) (by kernel_rfl) (by decide) hCl (by kernel_rfl) (by kernel_rfl) (by kernel_rfl) (fun _ _ _ h => h) (by rfl) ?hy16 (fun _ _ _ => trivial) (by assumption) (fun hCl' => ?_)
        case hy16 => ((intro w hSw; (try dsimp only at hSw); (try go_split_ands); go_simp); try with_reducible rfl)
        simp only [Act.put, List.setIfInBounds_toArray, List.set_cons_zero, List.set_cons_succ]
        replace hCl := hCl'; clear hCl'
        refine takeG (i := 3) (d := (some 27)) (v := ?v17) rfl rfl (by kernel_rfl) (by kernel_rfl) (by decide) hCl (by kernel_rfl) (by kernel_rfl) (by kernel_rfl) (fun _ _ _ h => h) (by rfl) ?hy17 (fun _ _ _ => trivial) (by assumption) (fun hCl' => ?_)
        case hy17 => ((intro w hSw; (try dsimp only at hSw); (try go_split_ands); go_simp); try with_reducible rfl)
        simp only [Act.put, List.setIfInBounds_toArray, List.set_cons_zero, List.set_cons_succ]
        replace hCl := hCl'; clear hCl'
        refine takeG (i := 8) (d := (some 32)) (v := ?v18) rfl rfl (by kernel_rfl) (by kernel_rfl) (by decide) hCl (by kernel_rfl) (by kernel_rfl) (by kernel_rfl) (fun _ _ _ h => h) (by rfl) ?hy18 (fun _ _ _ => trivial) (by assumption) (fun hCl' => ?_)
        case hy18 => ((intro w hSw; (try dsimp only at hSw); (try go_split_ands); go_simp); try with_reducible rfl)
        simp only [Act.put, List.setIfInBounds_toArray, List.set_cons_zero, List.set_cons_succ]
        replace hCl := hCl'; clear hCl'
        refine takeG (i := 12) (d := (some 36)) (v := ?v19) rfl rfl (by kernel_rfl) (by kernel_rfl) (by decide) hCl (by kernel_rfl) (by kernel_rfl) (by kernel_rfl) (fun _ _ _ h => h) (by rfl) ?hy19 (fun _ _ _ => trivial) (by assumption) (fun hCl' => ?_)
        case hy19 => ((intro w hSw; (try dsimp only at hSw); (try go_split_ands); go_simp); try with_reducible rfl)
        simp only [Act.put, List.setIfInBounds_toArray, List.set_cons_zero, List.set_cons_succ]
        replace hCl := hCl'; clear hCl'
        refine takeG (i := 17) (d := (some 41)) (v := ?v20) rfl rfl (by kernel_rfl) (by kernel_rfl) (by decide) hCl (by kernel_rfl) (by kernel_rfl) (by kernel_rfl) (fun _ _ _ h => h) (by rfl) ?hy20 (fun _ _ _ => trivial) (by assumption) (fun hCl' => ?_)
        case hy20 => ((intro w hSw; (try dsimp only at hSw); (try go_split_ands); go_simp); try with_reducible rfl)
        simp only [Act.put, List.setIfInBounds_toArray, List.set_cons_zero, List.set_cons_succ]
        replace hCl := hCl'; clear hCl'
        refine takeG (i := 4) (d := (some 28)) (v := ?v21) rfl rfl (by kernel_rfl) (by kernel_rfl) (by decide) hCl (by kernel_rfl) (by kernel_rfl) (by kernel_rfl) (fun _ _ _ h => h) (by rfl) ?hy21 (fun _ _ _ => trivial) (by assumption) (fun hCl' => ?_)
        case hy21 => ((intro w hSw; (try dsimp only at hSw); (try go_split_ands); go_simp); try with_reducible rfl)
        simp only [Act.put, List.setIfInBounds_toArray, List.set_cons_zero, List.set_cons_succ]
        replace hCl := hCl'; clear hCl'
        refine takeG (i := 13) (d := (some 37)) (v := ?v22) rfl rfl (by kernel_rfl) (by kernel_rfl) (by decide) hCl (by kernel_rfl) (by kernel_rfl) (by kernel_rfl) (fun _ _ _ h => h) (by rfl) ?hy22 (fun _ _ _ => trivial) (by assumption) (fun hCl' => ?_)
        case hy22 => ((intro w hSw; (try dsimp only at hSw); (try go_split_ands); go_simp); try with_reducible rfl)
        simp only [Act.put, List.setIfInBounds_toArray, List.set_cons_zero, List.set_cons_succ]
        replace hCl := hCl'; clear hCl'
        refine takeG (i := 5) (d := (some 29)) (v := ?v23) rfl rfl (by kernel_rfl) (by kernel_rfl) (by decide) hCl (by kernel_rfl) (by kernel_rfl) (by kernel_rfl) (fun _ _ _ h => h) (by rfl) ?hy23 (fun _ _ _ => trivial) (by assumption) (fun hCl' => ?_)
        case hy23 => ((intro w hSw; (try dsimp only at hSw); (try go_split_ands); go_simp); try with_reducible rfl)
        simp only [Act.put, List.setIfInBounds_toArray, List.set_cons_zero, List.set_cons_succ]
        replace hCl := hCl'; clear hCl'
        refine takeG (i := 14) (d := (some 38)) (v := ?v24) rfl rfl (by kernel_rfl) (by kernel_rfl) (by decide) hCl (by kernel_rfl) (by kernel_rfl) (by kernel_rfl) (fun _ _ _ h => h) (by rfl) ?hy24 (fun _ _ _ => trivial) (by assumption) (fun hCl' => ?_)
        case hy24 => ((intro w hSw; (try dsimp only at hSw); (try go_split_ands); go_simp); try with_reducible rfl)
        simp only [Act.put, List.setIfInBounds_toArray, List.set_cons_zero, List.set_cons_succ]
        replace hCl := hCl'; clear hCl'
        refine takeG (i := 6) (d := (some 30)) (v := ?v25) rfl rfl (by kernel_rfl) (by kernel_rfl) (by decide) hCl (by kernel_rfl) (by kernel_rfl) (by kernel_rfl) (fun _ _ _ h => h) (by rfl) ?hy25 (fun _ _ _ => trivial) (by assumption) (fun hCl' => ?_)
        case hy25 => ((intro w hSw; (try dsimp only at hSw); (try go_split_ands); go_simp); try with_reducible rfl)
        simp only [Act.put, List.setIfInBounds_toArray, List.set_cons_zero, List.set_cons_succ]
        replace hCl := hCl'; clear hCl'
        refine takeG (i := 15) (d := (some 39)) (v := ?v26) rfl rfl (by kernel_rfl) (by kernel_rfl) (by decide) hCl (by kernel_rfl) (by kernel_rfl) (by kernel_rfl) (fun _ _ _ h => h) (by rfl) ?hy26 (fun _ _ _ => trivial) (by assumption) (fun hCl' => ?_)
        case hy26 => ((intro w hSw; (try dsimp only at hSw); (try go_split_ands); go_simp); try with_reducible rfl)
        simp only [Act.put, List.setIfInBounds_toArray, List.set_cons_zero, List.set_cons_succ]
        replace hCl := hCl'; clear hCl'
        refine takeG (i := 9) (d := (some 33)) (v := ?v27) rfl rfl (by kernel_rfl) (by kernel_rfl) (by decide) hCl (by kernel_rfl) (by kernel_rfl) (by kernel_rfl) (fun _ _ _ h => h) (by rfl) ?hy27 (fun _ _ _ => trivial) (by assumption) (fun hCl' => ?_)
        case hy27 => ((intro w hSw; (try dsimp only at hSw); (try go_split_ands); go_simp); try with_reducible rfl)
        simp only [Act.put, List.setIfInBounds_toArray, List.set_cons_zero, List.set_cons_succ]
        replace hCl := hCl'; clear hCl'
        refine takeG (i := 18) (d := (some 42)) (v := ?v28) rfl rfl (by kernel_rfl) (by kernel_rfl) (by decide) hCl (by kernel_rfl) (by kernel_rfl) (by kernel_rfl) (fun _ _ _ h => h) (by rfl) ?hy28 (fun _ _ _ => trivial) (by assumption) (fun hCl' => ?_)
        case hy28 => ((intro w hSw; (try dsimp only at hSw); (try go_split_ands); go_simp); try with_reducible rfl)
        simp only [Act.put, List.setIfInBounds_toArray, List.set_cons_zero, List.set_cons_succ]
        replace hCl := hCl'; clear hCl'
        refine nextG (i := 19) (by kernel_rfl) rfl (by rfl) hCl (fun K hK => ?_)
        go_simp
        refine ⟨trivial, (callsIn_wide.2 (HT2.out _)).mono ?_⟩
        rintro e w6 ⟨rfl, u6⟩
        refine hK.out _ _ ⟨⟨hHeld.1.1.trans u6, u6.blk hHeld.1.2.1, row_up hHeld.1.2.2 u6⟩, u6.blk hHeld.2.1, u6.blk hHeld.2.2.1, u6.cell2 hHeld.2.2.2.1, u6.cell2 hHeld.2.2.2.2⟩ (fun hHeld hCl => ?_)
        clear hK K u6 HT2
        refine nextG (i := 20) (by kernel_rfl) rfl (by rfl) hCl (fun K hK => ?_)
        go_simp
        refine ⟨trivial, (callsIn_wide.2 (HB2.out _)).mono ?_⟩
        rintro e w7 ⟨rfl, u7⟩
        refine hK.out _ _ ⟨⟨hHeld.1.1.trans u7, u7.blk hHeld.1.2.1, row_up hHeld.1.2.2 u7⟩, u7.blk hHeld.2.1, u7.blk hHeld.2.2.1, u7.cell2 hHeld.2.2.2.1, u7.cell2 hHeld.2.2.2.2⟩ (fun hHeld hCl => ?_)
        clear hK K u7 HB2
        obtain ⟨⟨V8, k8, hown8⟩, p8, _⟩ := hHeld
        have zf := frozB p8
        clear hCl
        refine lastG (i := 21) (by kernel_rfl) rfl (by rfl) (by decide) (fun K hK => ?_)
        go_simp
        have V2 := (V8.set (p := ⟨p, 0, none⟩) (show w.heap.size ≤ p by omega) (.int .i64 m1)).set (p := ⟨p, 1, none⟩) (show w.heap.size ≤ p by omega) (.int .i64 m2)
        have k2 := k8
        rw [← blk_set w7 ⟨p, 0, none⟩ (.int .i64 m1) w.heap.size (by show w.heap.size ≠ p; omega), ← blk_set (w7.setCell ⟨p, 0, none⟩ (.int .i64 m1)) ⟨p, 1, none⟩ (.int .i64 m2) w.heap.size (by show w.heap.size ≠ p; omega)] at k2
        have p3 : mblk ((w7.setCell ⟨p, 0, none⟩ (.int .i64 m1)).setCell ⟨p, 1, none⟩ (.int .i64 m2)) p = some (.cells #[.int .i64 m1, .int .i64 m2] 23 (0, 0)) := blk_put (blk_put p8 0 (.int .i64 m1)) 1 (.int .i64 m2)
        have hown2 := row_put2 hown8 hne (.int .i64 m1) (.int .i64 m2)
        obtain ⟨W9, hW9⟩ : ∃ W, (w7.setCell ⟨p, 0, none⟩ (.int .i64 m1)).setCell ⟨p, 1, none⟩ (.int .i64 m2) = W := ⟨_, rfl⟩
        rw [hW9] at V2 k2 p3 hown2
        try rw [hW9]
        refine hK.out _ _ ?_
        clear hK K hW9 V8 k8 hown8 p8 zf
        refine doneG (by kernel_rfl) ?_ _
        refine S.nrm_intro ?_
        go_wp2_with fail
        go_loopw [8] (fun i wr => ∃ (k : Nat) (sl sh : Int), k ≤ nls ∧ i = .int .i64 k ∧ Hid (b.Cur o T k (sl, sh)) ∧ Up w wr ∧ mblk wr w.heap.size = some (.cells (BC f s j lb hbb tN (.slice a nst c) (.slice a' nls c')) 44 (0, 0)) ∧ mblk wr p = some (.cells #[.int .i64 sl, .int .i64 sh] 23 (0, 0)) ∧ wr.ownsRow (w.heap.size + 1) 23 2 (.slice (some ⟨g, 0, none⟩) T cap) T (S.spn o T)) (fun i _ => nls - (intOf i).toNat)
        case atStart => exact ⟨0, _, _, Nat.zero_le _, rfl, HC0, V2, k2, p3, hown2⟩
        case round =>
          clear V2 k2 p3 hown2 HC0
          obtain ⟨k, sl, sh, hk, rfl, hC, V2, k2, p3, hown2⟩ := hrel
          by_cases hkl : k < nls
          · have hkl' : (k : Int) < (nls : Int) := by omega
            obtain ⟨a1, c1, e1, _, _, hm⟩ := (HI'.out _ V2).is
            injection e1 with e1 e2 e3
            subst e1 e3
            clear e2
            have hlk : k < b.looks.length := by rw [HN.out]; exact hkl
            obtain ⟨g', off, rfl, gl, hc⟩ := hm (by omega)
            obtain ⟨x1, x2, x3⟩ := hc k hlk
            obtain ⟨z, hz⟩ : ∃ z, b.looks.getD k (0, 0, 0) = z := ⟨_, rfl⟩
            rw [hz] at x1 x2 x3
            obtain ⟨lt, ll, lh⟩ := z
            simp only at x1 x2 x3
            by_cases he : lt = (T : Int)
            · subst he
              have HC1 := Lib.hid (hC.out.look_in (show T ≤ b.ticks by rw [HT.out]; omega) hlk hz)
              have HB2 := Lib.hid (HBo.out sl sh ll lh)
              obtain ⟨nl, hnl⟩ : ∃ q, max sl ll = q := ⟨_, rfl⟩
              obtain ⟨nh, hnh⟩ : ∃ q, min sh lh = q := ⟨_, rfl⟩
              have ebo : S.bo (sl, sh) (ll, lh) = (nl, nh) := by rw [← hnl, ← hnh]; rfl
              rw [ebo] at HC1
              rw [hnl, hnh] at HB2
              clear hnl hnh ebo hlk hz hc hm hC
              go_wp2_with fail
              refine (wpIn_wide (n := 5)).1 ?_
              refine wpIn_nrm ?_
              refine regionG (fun w' => (Up w w' ∧ w'.ownsRow (w.heap.size + 1) 23 2 (.slice (some ⟨g, 0, none⟩) T cap) T (S.spn o T)) ∧ mblk w' w.heap.size = some (.cells (BC f s j lb hbb tN (.slice a nst c) (.slice (some ⟨g', off, none⟩) nls c')) 44 (0, 0)) ∧ mblk w' p = some (.cells #[.int .i64 sl, .int .i64 sh] 23 (0, 0)) ∧ w'.cell? ⟨g', off + k * 3 + 1, none⟩ = some (.int .i64 ll) ∧ w'.cell? ⟨g', off + k * 3 + 2, none⟩ = some (.int .i64 lh)) 8 (by kernel_rfl) ⟨⟨V2.drew, row_up hown2 (Up.refl _).drew⟩, by rw [blk_drew]; exact k2, by rw [blk_drew]; exact p3, x2, x3⟩ (fun hHeld hCl => ?_)
              clear V2 k2 hown2 p3 x1 x2 x3
              refine takeG (i := 0) (d := (some 60)) (v := ?v32) rfl rfl (by kernel_rfl) (by kernel_rfl) (by decide) hCl (by kernel_rfl) (by kernel_rfl) (by kernel_rfl) (fun _ _ _ h => h) (by rfl) ?hy32 (fun _ _ _ => trivial) (by assumption) (fun hCl' => ?_)
              case hy32 => ((intro w hSw; (try dsimp only at hSw); (try go_split_ands); go_simp); try with_reducible rfl)
              simp only [Act.put, List.setIfInBounds_toArray, List.set_cons_zero, List.set_cons_succ]
              replace hCl := hCl'; clear hCl'
              refine takeG (i := 1) (d := (some 61)) (v := ?v33) rfl rfl (by kernel_rfl) (by kernel_rfl) (by decide) hCl (by kernel_rfl) (by kernel_rfl) (by kernel_rfl) (fun _ _ _ h => h) (by rfl) ?hy33 (fun _ _ _ => trivial) (by assumption) (fun hCl' => ?_)
              case hy33 => ((intro w hSw; (try dsimp only at hSw); (try go_split_ands); go_simp); try with_reducible rfl)
              simp only [Act.put, List.setIfInBounds_toArray, List.set_cons_zero, List.set_cons_succ]
              replace hCl := hCl'; clear hCl'
              refine takeG (i := 3) (d := (some 63)) (v := ?v34) rfl rfl (by kernel_rfl) (by kernel_rfl) (by decide) hCl (by kernel_rfl) (by kernel_rfl) (by kernel_rfl) (fun _ _ _ h => h) (by rfl) ?hy34 (fun _ _ _ => trivial) (by assumption) (fun hCl' => ?_)
              case hy34 => ((intro w hSw; (try dsimp only at hSw); (try go_split_ands); go_simp); try with_reducible rfl)
              simp only [Act.put, List.setIfInBounds_toArray, List.set_cons_zero, List.set_cons_succ]
              replace hCl := hCl'; clear hCl'
              refine takeG (i := 2) (d := (some 62)) (v := ?v35) rfl rfl (by kernel_rfl) (by kernel_rfl) (by decide) hCl (by kernel_rfl) (by kernel_rfl) (by kernel_rfl) (fun _ _ _ h => h) (by rfl) ?hy35 (fun _ _ _ => trivial) (by assumption) (fun hCl' => ?_)
              case hy35 => ((intro w hSw; (try dsimp only at hSw); (try go_split_ands); go_simp); try with_reducible rfl)
              simp only [Act.put, List.setIfInBounds_toArray, List.set_cons_zero, List.set_cons_succ]
              replace hCl := hCl'; clear hCl'
              refine takeG (i := 4) (d := (some 64)) (v := ?v36) rfl rfl (by kernel_rfl) (by kernel_rfl) (by decide) hCl (by kernel_rfl) (by kernel_rfl) (by kernel_rfl) (fun _ _ _ h => h) (by rfl) ?hy36 (fun _ _ _ => trivial) (by assumption) (fun hCl' => ?_)
              case hy36 => ((intro w hSw; (try dsimp only at hSw); (try go_split_ands); go_simp); try with_reducible rfl)
              simp only [Act.put, List.setIfInBounds_toArray, List.set_cons_zero, List.set_cons_succ]
              replace hCl := hCl'; clear hCl'
              refine takeG (i := 5) (d := (some 65)) (v := ?v37) rfl rfl (by kernel_rfl) (by kernel_rfl) (by decide) hCl (by kernel_rfl) (by kernel_rfl) (by kernel_rfl) (fun _ _ _ h => h) (by rfl) ?hy37 (fun _ _ _ => trivial) (by assumption) (fun hCl' => ?_)
              case hy37 => ((intro w hSw; (try dsimp only at hSw); (try go_split_ands); go_simp); try with_reducible rfl)
              simp only [Act.put, List.setIfInBounds_toArray, List.set_cons_zero, List.set_cons_succ]
              replace hCl := hCl'; clear hCl'
              refine takeG (i := 6) (d := (some 66)) (v := ?v38) rfl rfl (by kernel_rfl) (by kernel_rfl) (by decide) hCl (by kernel_rfl) (by kernel_rfl) (by kernel_rfl) (fun _ _ _ h => h) (by rfl) ?hy38 (fun _ _ _ => trivial) (by assumption) (fun hCl' => ?_)
              case hy38 => ((intro w hSw; (try dsimp only at hSw); (try go_split_ands); go_simp); try with_reducible rfl)
              simp only [Act.put, List.setIfInBounds_toArray, List.set_cons_zero, List.set_cons_succ]
              replace hCl := hCl'; clear hCl'
              refine nextG (i := 7) (by kernel_rfl) rfl (by rfl) hCl (fun K hK => ?_)
              go_simp
              refine ⟨trivial, (callsIn_wide.2 (HB2.out _)).mono ?_⟩
              rintro e w7 ⟨rfl, u7⟩
              refine hK.out _ _ ⟨⟨hHeld.1.1.trans u7, row_up hHeld.1.2 u7⟩, u7.blk hHeld.2.1, u7.blk hHeld.2.2.1, u7.cell2 hHeld.2.2.2.1, u7.cell2 hHeld.2.2.2.2⟩ (fun hHeld hCl => ?_)
              clear hK K u7 HB2
              obtain ⟨⟨V8, hown8⟩, k8, p8, _⟩ := hHeld
              have zf := frozB p8
              clear hCl
              refine lastG (i := 8) (by kernel_rfl) rfl (by rfl) (by decide) (fun K hK => ?_)
              go_simp
              have V2 := (V8.set (p := ⟨p, 0, none⟩) (show w.heap.size ≤ p by omega) (.int .i64 nl)).set (p := ⟨p, 1, none⟩) (show w.heap.size ≤ p by omega) (.int .i64 nh)
              have k2 := k8
              rw [← blk_set w7 ⟨p, 0, none⟩ (.int .i64 nl) w.heap.size (by show w.heap.size ≠ p; omega), ← blk_set (w7.setCell ⟨p, 0, none⟩ (.int .i64 nl)) ⟨p, 1, none⟩ (.int .i64 nh) w.heap.size (by show w.heap.size ≠ p; omega)] at k2
              have p3 : mblk ((w7.setCell ⟨p, 0, none⟩ (.int .i64 nl)).setCell ⟨p, 1, none⟩ (.int .i64 nh)) p = some (.cells #[.int .i64 nl, .int .i64 nh] 23 (0, 0)) := blk_put (blk_put p8 0 (.int .i64 nl)) 1 (.int .i64 nh)
              have hown2 := row_put2 hown8 hne (.int .i64 nl) (.int .i64 nh)
              obtain ⟨W9, hW9⟩ : ∃ W, (w7.setCell ⟨p, 0, none⟩ (.int .i64 nl)).setCell ⟨p, 1, none⟩ (.int .i64 nh) = W := ⟨_, rfl⟩
              rw [hW9] at V2 k2 p3 hown2
              try rw [hW9]
              refine hK.out _ _ ?_
              clear hK K hW9 V8 k8 hown8 p8 zf
              refine doneG (by kernel_rfl) ?_ _
              refine S.nrm_intro ?_
              go_wp2_with fail
              go_roundw
              case rel => exact ⟨k + 1, nl, nh, by omega, by go_num, HC1.out, V2, k2, p3, hown2⟩
              case measure => simp [intOf]; omega
            · have HC1 := Lib.hid (hC.out.look_out hlk (by rw [hz]; exact he))
              clear hlk hz hc hm hC
              go_wp2_with fail
              go_roundw
              case rel => exact ⟨k + 1, sl, sh, by omega, by go_num, HC1.out, V2, k2, p3, hown2⟩
              case measure => simp [intOf]; omega
          · by_cases hsl : sh < sl
            · have HNo := Lib.hid (hC.out.none hsl)
              have hkl' : ¬ (k : Int) < (nls : Int) := by omega
              clear hC hF
              go_wp2
              go_ret2
              exact ⟨V2, .inr ⟨rfl, HNo.out⟩⟩
            · have HFw := Lib.hid (hC.out.done hF.out (by rw [HN.out]; omega) (show sl ≤ sh by omega))
              have hkl' : ¬ (k : Int) < (nls : Int) := by omega
              have ls := V2.size
              have lk := blk_lt k2
              have HSp := Lib.hid (S.spn_put o T sl sh)
              clear hC hF
              go_wp2_with (at_builtin; refine wpList_append_own _ rfl (.tmp 73) (.tmp 75) 94 rfl (w.heap.size + 1) 23 i0 (.agg #[.int .i64 0, .int .i64 0]) 2 16 hU hi hz0 hz1 hz2 rfl (by decide) _ T _ rfl (hown2.alloc _) ⟨wr.heap.size, 0, none⟩ 1 1 [.int .i64 sl, .int .i64 sh] rfl rfl (cell_two_new _ _ _ _) (by simp [Value.oneCell']) (by unfold maxLen; omega) (by omega) (by simp; omega) ?_; intro v' w5 hown5 hgrow5 hv5)
              have x0 := grown_blk hgrow5 (blk_keep _ k2) (row_block hown2 (by omega))
              have U5 : Up w w5 := (V2.alloc _).grown hgrow5 (fun k e => by have := row_base hown2 k e; omega)
              go_roundw
              case rel => exact ⟨T + 1, _, by omega, by go_num, HFw.out, by rw [HSp.out]; exact hown5, U5, x0⟩
              case measure => simp [intOf]; omega
    · obtain rfl : t = tN + 1 := by omega
      have hgt : ¬ ((tN + 1 : Nat) : Int) ≤ (tN : Int) := by omega
      obtain ⟨g, cap, cur, rfl, hg, hgb, hcap, hcapm, hAr⟩ := S.Arr2.of_row hown (by omega)
      have hFe : b.Fwd o (b.ticks + 1) := by rw [HT.out]; exact hF.out
      have HFe := Lib.hid hFe
      have HB0 : Hid (b.Bwd o o tN) := by have := S.Bk.Bwd.start hFe; rw [HT.out] at this; exact this
      have HAr := Lib.hid hAr
      have wz : IntKind.i64.wrap ((tN : Int) - 1) = (tN : Int) - 1 := IntWalk.i64_in _ (by omega)
      unfold maxLen at hcapm
      clear hF hown hAr hFe
      go_wp2_with fail
      go_loopw [9] (fun i wr => ∃ (m : Nat) (o' : S.Ofs) (cur' : Array Value) (z : Int), m ≤ tN ∧ z = (m : Int) - 1 ∧ i = .int .i64 z ∧ Hid (b.Bwd o o' m) ∧ Up w wr ∧ mblk wr w.heap.size = some (.cells (BC f s j lb hbb tN (.slice a nst c) (.slice a' nls c')) 44 (0, 0)) ∧ mblk wr g = some (.cells cur' 23 (0, 0)) ∧ Hid (S.Arr2 cur' o' (tN + 1))) (fun i _ => (intOf i + 1).toNat)
      case atStart => exact ⟨tN, o, cur, _, Nat.le_refl _, rfl, rfl, HB0, V, k1, hgb, HAr⟩
      case round =>
        clear V k1 hgb HAr HB0
        obtain ⟨m, o', cur', z, hm, hz, rfl, hB, V, k1, hgb, hA⟩ := hrel
        by_cases h0 : m = 0
        · have hz' : ¬ (0 : Int) ≤ z := by omega
          have HEn := Lib.hid (fun t (ht : t ≤ tN) => S.Bk.Bwd.ends HFe.out (h0 ▸ hB.out) t (by rw [HT.out]; exact ht))
          clear hB h0 hz
          go_wp2
          exact bodyPost_ret (v := .tuple #[.slice (some ⟨g, 0, none⟩) (tN + 1) cap, .bool true]) (by simp [results, Try.results76, go_sem]) rfl ⟨V, .inl ⟨g, cap, rfl, cur', hgb, hcap, o', hA.out, HEn.out⟩⟩
        · obtain ⟨u, rfl⟩ : ∃ u, m = u + 1 := ⟨m - 1, by omega⟩
          obtain rfl : z = (u : Int) := by omega
          obtain ⟨T, hT⟩ : ∃ T, u + 1 = T := ⟨_, rfl⟩
          have wT : IntKind.i64.wrap ((u : Int) + 1) = (T : Int) := by rw [IntWalk.i64_in _ (by omega)]; omega
          have hu0 : (0 : Int) ≤ (u : Int) := by omega
          have hu1 : (u : Int) < (tN : Int) + 1 := by omega
          have hT1 : (T : Int) < (tN : Int) + 1 := by omega
          have HBn := Lib.hid (S.Bk.Bwd.step HFe.out hB.out (show u < b.ticks by rw [HT.out]; omega) (hcs.out u))
          have f1 := hB.out.fine u (by rw [HT.out]; omega)
          have f2 := hB.out.fine (u + 1) (by rw [HT.out]; omega)
          have cb := hcb.out u
          have c0 := cellB hgb (u * 2)
          have c1 := cellB hgb (u * 2 + 1)
          have d0 := cellB hgb ((u + 1) * 2)
          have d1 := cellB hgb ((u + 1) * 2 + 1)
          rw [(hA.out u (by omega)).1] at c0
          rw [(hA.out u (by omega)).2] at c1
          rw [(hA.out (u + 1) (by omega)).1] at d0
          rw [(hA.out (u + 1) (by omega)).2] at d1
          have HCu := Lib.hid (HCh.out u _ V)
          have HA' := Lib.hid (fun x y => hA.out.put (show u < tN + 1 by omega) x y)
          obtain ⟨cl, hcl⟩ : ∃ x, b.cL u = x := ⟨_, rfl⟩
          obtain ⟨ch, hch⟩ : ∃ x, b.cH u = x := ⟨_, rfl⟩
          rw [hcl, hch] at HCu HBn cb
          obtain ⟨pu, hpu⟩ : ∃ x, o' u = x := ⟨_, rfl⟩
          obtain ⟨pt, hpt⟩ : ∃ x, o' (u + 1) = x := ⟨_, rfl⟩
          rw [hpu] at f1 c0 c1 HBn
          rw [hpt] at f2 d0 d1 HBn
          obtain ⟨ol, oh⟩ := pu
          obtain ⟨tl, th⟩ := pt
          simp only at f1 f2 c0 c1 d0 d1 HBn
          rw [hT] at d0 d1
          have wa : IntKind.i64.wrap (tl - ch) = tl + -ch := by rw [IntWalk.i64_in _ (by omega)]; omega
          have wb : IntKind.i64.wrap (th - cl) = th + -cl := by rw [IntWalk.i64_in _ (by omega)]; omega
          have HT2 := Lib.hid (HTo.out (tl + -ch) (th + -cl))
          have HB2 := Lib.hid (HBo.out ol oh (tl + -ch) (th + -cl))
          obtain ⟨n1, hn1⟩ : ∃ x, tl + -ch = x := ⟨_, rfl⟩
          obtain ⟨n2, hn2⟩ : ∃ x, th + -cl = x := ⟨_, rfl⟩
          rw [hn1] at wa
          rw [hn2] at wb
          rw [hn1, hn2] at HT2 HB2 HBn
          obtain ⟨m1, hm1⟩ : ∃ x, max ol n1 = x := ⟨_, rfl⟩
          obtain ⟨m2, hm2⟩ : ∃ x, min oh n2 = x := ⟨_, rfl⟩
          rw [hm1, hm2] at HB2
          have hbo : S.bo (ol, oh) (n1, n2) = (m1, m2) := by rw [← hm1, ← hm2]; rfl
          rw [hbo] at HBn
          have HA2 := Lib.hid (HA'.out m1 m2)
          have hgs : w.heap.size + 1 ≤ g := hg
          clear hcl hch hpu hpt hn1 hn2 hm1 hm2 hbo f1 f2 cb h0 hB hA HA' hz hT
          go_wp2_with fail
          refine HCu.out.mono ?_
          rintro e w3 ⟨rfl, u3⟩
          clear HCu
          have q4 := blk_new w3 (.cells #[.int .i64 cl, .int .i64 ch] 23) _ rfl
          have A4 := (Up.refl w3).alloc (.cells #[.int .i64 cl, .int .i64 ch] 23)
          have V4 := (V.trans u3).trans A4
          have k4 := Up.blk A4 (u3.blk k1)
          have g4 := Up.blk A4 (u3.blk hgb)
          have lg := blk_lt (u3.blk hgb)
          have c4 := Up.cell2 A4 (u3.cell2 c0)
          have c5 := Up.cell2 A4 (u3.cell2 c1)
          have d4 := Up.cell2 A4 (u3.cell2 d0)
          have d5 := Up.cell2 A4 (u3.cell2 d1)
          obtain ⟨q, hq⟩ : ∃ p, w3.heap.size = p := ⟨_, rfl⟩
          obtain ⟨W4, hW4⟩ : ∃ W, w3.alloc (.cells #[.int .i64 cl, .int .i64 ch] 23) = W := ⟨_, rfl⟩
          rw [hq] at q4 lg
          rw [hW4] at q4 V4 k4 g4 c4 c5 d4 d5
          clear V k1 hgb c0 c1 d0 d1 u3 A4
          go_wp2_with fail
          try rw [hW4]
          try rw [hq]
          clear hW4 hq
          refine (wpIn_wide (n := 5)).1 ?_
          refine wpIn_nrm ?_
          refine regionG (fun w' => (Up w w' ∧ mblk w' w.heap.size = some (.cells (BC f s j lb hbb tN (.slice a nst c) (.slice a' nls c')) 44 (0, 0)) ∧ mblk w' g = some (.cells cur' 23 (0, 0))) ∧ mblk w' q = some (.cells #[.int .i64 cl, .int .i64 ch] 23 (0, 0)) ∧ w'.cell? ⟨g, u * 2, none⟩ = some (.int .i64 ol) ∧ w'.cell? ⟨g, u * 2 + 1, none⟩ = some (.int .i64 oh) ∧ w'.cell? ⟨g, T * 2, none⟩ = some (.int .i64 tl) ∧ w'.cell? ⟨g, T * 2 + 1, none⟩ = some (.int .i64 th)) 27 (by kernel_rfl) ⟨⟨V4.drew, by rw [blk_drew]; exact k4, by rw [blk_drew]; exact g4⟩, by rw [blk_drew]; exact q4, c4, c5, d4, d5⟩ (fun hHeld hCl => ?_)
          clear V4 k4 g4 q4 c4 c5 d4 d5
          refine takeG (i := 0) (d := (some 87)) (v := ?v41) rfl rfl (by kernel_rfl) (by kernel_rfl) (by decide) hCl (by kernel_rfl) (by kernel_rfl) (by kernel_rfl) (fun _ _ _ h => h) (by rfl) ?hy41 (fun _ _ _ => trivial) (by assumption) (fun hCl' => ?_)
          case hy41 => ((intro w hSw; (try dsimp only at hSw); (try go_split_ands); go_simp); try with_reducible rfl)
          simp only [Act.put, List.setIfInBounds_toArray, List.set_cons_zero, List.set_cons_succ]
          replace hCl := hCl'; clear hCl'
          refine takeG (i := 1) (d := (some 88)) (v := ?v42) rfl rfl (by kernel_rfl) (by kernel_rfl) (by decide) hCl (by kernel_rfl) (by kernel_rfl) (by kernel_rfl) (fun _ _ _ h => h) (by rfl) ?hy42 (fun _ _ _ => trivial) (by assumption) (fun hCl' => ?_)
          case hy42 => ((intro w hSw; (try dsimp only at hSw); (try go_split_ands); go_simp); try with_reducible rfl)
          simp only [Act.put, List.setIfInBounds_toArray, List.set_cons_zero, List.set_cons_succ]
          replace hCl := hCl'; clear hCl'
          refine takeG (i := 2) (d := (some 89)) (v := ?v43) rfl rfl (by kernel_rfl) (by kernel_rfl) (by decide) hCl (by kernel_rfl) (by kernel_rfl) (by kernel_rfl) (fun _ _ _ h => h) (by rfl) ?hy43 (fun _ _ _ => trivial) (by assumption) (fun hCl' => ?_)
          case hy43 => ((intro w hSw; (try dsimp only at hSw); (try go_split_ands); go_simp); try with_reducible rfl)
          simp only [Act.put, List.setIfInBounds_toArray, List.set_cons_zero, List.set_cons_succ]
          replace hCl := hCl'; clear hCl'
          refine takeG (i := 3) (d := (some 90)) (v := ?v44) rfl rfl (by kernel_rfl) (by kernel_rfl) (by decide) hCl (by kernel_rfl) (by kernel_rfl) (by kernel_rfl) (fun _ _ _ h => h) (by rfl) ?hy44 (fun _ _ _ => trivial) (by assumption) (fun hCl' => ?_)
          case hy44 => ((intro w hSw; (try dsimp only at hSw); (try go_split_ands); go_simp); try with_reducible rfl)
          simp only [Act.put, List.setIfInBounds_toArray, List.set_cons_zero, List.set_cons_succ]
          replace hCl := hCl'; clear hCl'
          refine takeG (i := 6) (d := (some 93)) (v := ?v45) rfl rfl (by kernel_rfl) (by kernel_rfl) (by decide) hCl (by kernel_rfl) (by kernel_rfl) (by kernel_rfl) (fun _ _ _ h => h) (by rfl) ?hy45 (fun _ _ _ => trivial) (by assumption) (fun hCl' => ?_)
          case hy45 => ((intro w hSw; (try dsimp only at hSw); (try go_split_ands); go_simp); try with_reducible rfl)
          simp only [Act.put, List.setIfInBounds_toArray, List.set_cons_zero, List.set_cons_succ]
          replace hCl := hCl'; clear hCl'
          refine takeG (i := 7) (d := (some 94)) (v := ?v46) rfl rfl (by kernel_rfl) (by kernel_rfl) (by decide) hCl (by kernel_rfl) (by kernel_rfl) (by kernel_rfl) (fun _ _ _ h => h) (by rfl) ?hy46 (fun _ _ _ => trivial) (by assumption) (fun hCl' => ?_)
          case hy46 => ((intro w hSw; (try dsimp only at hSw); (try go_split_ands); go_simp); try with_reducible rfl)
          simp only [Act.put, List.setIfInBounds_toArray, List.set_cons_zero, List.set_cons_succ]
          replace hCl := hCl'; clear hCl'
          refine takeG (i := 12) (d := (some 99)) (v := ?v47) rfl rfl (by kernel_rfl) (by kernel_rfl) (by decide) hCl (by kernel_rfl) (by kernel_rfl) (by kernel_rfl) (fun _ _ _ h => h) (by rfl) ?hy47 (fun _ _ _ => trivial) (by assumption) (fun hCl' => ?_)
          case hy47 => ((intro w hSw; (try dsimp only at hSw); (try go_split_ands); go_simp); try with_reducible rfl)
          simp only [Act.put, List.setIfInBounds_toArray, List.set_cons_zero, List.set_cons_succ]
          replace hCl := hCl'; clear hCl'
          refine takeG (i := 15) (d := (some 102)) (v := ?v48) rfl rfl (by kernel_rfl) (by kernel_rfl) (by decide) hCl (by kernel_rfl) (by kernel_rfl) (by kernel_rfl) (fun _ _ _ h => h) (by rfl) ?hy48 (fun _ _ _ => trivial) (by assumption) (fun hCl' => ?_)
          case hy48 => ((intro w hSw; (try dsimp only at hSw); (try go_split_ands); go_simp); try with_reducible rfl)
          simp only [Act.put, List.setIfInBounds_toArray, List.set_cons_zero, List.set_cons_succ]
          replace hCl := hCl'; clear hCl'
          refine takeG (i := 16) (d := (some 103)) (v := ?v49) rfl rfl (by kernel_rfl) (by kernel_rfl) (by decide) hCl (by kernel_rfl) (by kernel_rfl) (by kernel_rfl) (fun _ _ _ h => h) (by rfl) ?hy49 (fun _ _ _ => trivial) (by assumption) (fun hCl' => ?_)
          case hy49 => ((intro w hSw; (try dsimp only at hSw); (try go_split_ands); go_simp); try with_reducible rfl)
          simp only [Act.put, List.setIfInBounds_toArray, List.set_cons_zero, List.set_cons_succ]
          replace hCl := hCl'; clear hCl'
          refine takeG (i := 21) (d := (some 108)) (v := ?v50) rfl rfl (by kernel_rfl) (by kernel_rfl) (by decide) hCl (by kernel_rfl) (by kernel_rfl) (by kernel_rfl) (fun _ _ _ h => h) (by rfl) ?hy50 (fun _ _ _ => trivial) (by assumption) (fun hCl' => ?_)
          case hy50 => ((intro w hSw; (try dsimp only at hSw); (try go_split_ands); go_simp); try with_reducible rfl)
          simp only [Act.put, List.setIfInBounds_toArray, List.set_cons_zero, List.set_cons_succ]
          replace hCl := hCl'; clear hCl'
          refine takeG (i := 4) (d := (some 91)) (v := ?v51) rfl rfl (by kernel_rfl) (by kernel_rfl) (by decide) hCl (by kernel_rfl) (by kernel_rfl) (by kernel_rfl) (fun _ _ _ h => h) (by rfl) ?hy51 (fun _ _ _ => trivial) (by assumption) (fun hCl' => ?_)
          case hy51 => ((intro w hSw; (try dsimp only at hSw); (try go_split_ands); go_simp); try with_reducible rfl)
          simp only [Act.put, List.setIfInBounds_toArray, List.set_cons_zero, List.set_cons_succ]
          replace hCl := hCl'; clear hCl'
          refine takeG (i := 8) (d := (some 95)) (v := ?v52) rfl rfl (by kernel_rfl) (by kernel_rfl) (by decide) hCl (by kernel_rfl) (by kernel_rfl) (by kernel_rfl) (fun _ _ _ h => h) (by rfl) ?hy52 (fun _ _ _ => trivial) (by assumption) (fun hCl' => ?_)
          case hy52 => ((intro w hSw; (try dsimp only at hSw); (try go_split_ands); go_simp); try with_reducible rfl)
          simp only [Act.put, List.setIfInBounds_toArray, List.set_cons_zero, List.set_cons_succ]
          replace hCl := hCl'; clear hCl'
          refine takeG (i := 13) (d := (some 100)) (v := ?v53) rfl rfl (by kernel_rfl) (by kernel_rfl) (by decide) hCl (by kernel_rfl) (by kernel_rfl) (by kernel_rfl) (fun _ _ _ h => h) (by rfl) ?hy53 (fun _ _ _ => trivial) (by assumption) (fun hCl' => ?_)
          case hy53 => ((intro w hSw; (try dsimp only at hSw); (try go_split_ands); go_simp); try with_reducible rfl)
          simp only [Act.put, List.setIfInBounds_toArray, List.set_cons_zero, List.set_cons_succ]
          replace hCl := hCl'; clear hCl'
          refine takeG (i := 17) (d := (some 104)) (v := ?v54) rfl rfl (by kernel_rfl) (by kernel_rfl) (by decide) hCl (by kernel_rfl) (by kernel_rfl) (by kernel_rfl) (fun _ _ _ h => h) (by rfl) ?hy54 (fun _ _ _ => trivial) (by assumption) (fun hCl' => ?_)
          case hy54 => ((intro w hSw; (try dsimp only at hSw); (try go_split_ands); go_simp); try with_reducible rfl)
          simp only [Act.put, List.setIfInBounds_toArray, List.set_cons_zero, List.set_cons_succ]
          replace hCl := hCl'; clear hCl'
          refine takeG (i := 22) (d := (some 109)) (v := ?v55) rfl rfl (by kernel_rfl) (by kernel_rfl) (by decide) hCl (by kernel_rfl) (by kernel_rfl) (by kernel_rfl) (fun _ _ _ h => h) (by rfl) ?hy55 (fun _ _ _ => trivial) (by assumption) (fun hCl' => ?_)
          case hy55 => ((intro w hSw; (try dsimp only at hSw); (try go_split_ands); go_simp); try with_reducible rfl)
          simp only [Act.put, List.setIfInBounds_toArray, List.set_cons_zero, List.set_cons_succ]
          replace hCl := hCl'; clear hCl'
          refine takeG (i := 5) (d := (some 92)) (v := ?v56) rfl rfl (by kernel_rfl) (by kernel_rfl) (by decide) hCl (by kernel_rfl) (by kernel_rfl) (by kernel_rfl) (fun _ _ _ h => h) (by rfl) ?hy56 (fun _ _ _ => trivial) (by assumption) (fun hCl' => ?_)
          case hy56 => ((intro w hSw; (try dsimp only at hSw); (try go_split_ands); go_simp); try with_reducible rfl)
          simp only [Act.put, List.setIfInBounds_toArray, List.set_cons_zero, List.set_cons_succ]
          replace hCl := hCl'; clear hCl'
          refine takeG (i := 9) (d := (some 96)) (v := ?v57) rfl rfl (by kernel_rfl) (by kernel_rfl) (by decide) hCl (by kernel_rfl) (by kernel_rfl) (by kernel_rfl) (fun _ _ _ h => h) (by rfl) ?hy57 (fun _ _ _ => trivial) (by assumption) (fun hCl' => ?_)
          case hy57 => ((intro w hSw; (try dsimp only at hSw); (try go_split_ands); go_simp); try with_reducible rfl)
          simp only [Act.put, List.setIfInBounds_toArray, List.set_cons_zero, List.set_cons_succ]
          replace hCl := hCl'; clear hCl'
          refine takeG (i := 18) (d := (some 105)) (v := ?v58) rfl rfl (by kernel_rfl) (by kernel_rfl) (by decide) hCl (by kernel_rfl) (by kernel_rfl) (by kernel_rfl) (fun _ _ _ h => h) (by rfl) ?hy58 (fun _ _ _ => trivial) (by assumption) (fun hCl' => ?_)
          case hy58 => ((intro w hSw; (try dsimp only at hSw); (try go_split_ands); go_simp); try with_reducible rfl)
          simp only [Act.put, List.setIfInBounds_toArray, List.set_cons_zero, List.set_cons_succ]
          replace hCl := hCl'; clear hCl'
          refine takeG (i := 10) (d := (some 97)) (v := ?v59) rfl rfl (by kernel_rfl) (by kernel_rfl) (by decide) hCl (by kernel_rfl) (by kernel_rfl) (by kernel_rfl) (fun _ _ _ h => h) (by rfl) ?hy59 (fun _ _ _ => trivial) (by assumption) (fun hCl' => ?_)
          case hy59 => ((intro w hSw; (try dsimp only at hSw); (try go_split_ands); go_simp); try with_reducible rfl)
          simp only [Act.put, List.setIfInBounds_toArray, List.set_cons_zero, List.set_cons_succ]
          replace hCl := hCl'; clear hCl'
          refine takeG (i := 19) (d := (some 106)) (v := ?v60) rfl rfl (by kernel_rfl) (by kernel_rfl) (by decide) hCl (by kernel_rfl) (by kernel_rfl) (by kernel_rfl) (fun _ _ _ h => h) (by rfl) ?hy60 (fun _ _ _ => trivial) (by assumption) (fun hCl' => ?_)
          case hy60 => ((intro w hSw; (try dsimp only at hSw); (try go_split_ands); go_simp); try with_reducible rfl)
          simp only [Act.put, List.setIfInBounds_toArray, List.set_cons_zero, List.set_cons_succ]
          replace hCl := hCl'; clear hCl'
          refine takeG (i := 11) (d := (some 98)) (v := ?v61) rfl rfl (by kernel_rfl) (by kernel_rfl) (by decide) hCl (by kernel_rfl) (by kernel_rfl) (by kernel_rfl) (fun _ _ _ h => h) (by rfl) ?hy61 (fun _ _ _ => trivial) (by assumption) (fun hCl' => ?_)
          case hy61 => ((intro w hSw; (try dsimp only at hSw); (try go_split_ands); go_simp); try with_reducible rfl)
          simp only [Act.put, List.setIfInBounds_toArray, List.set_cons_zero, List.set_cons_succ]
          replace hCl := hCl'; clear hCl'
          refine takeG (i := 20) (d := (some 107)) (v := ?v62) rfl rfl (by kernel_rfl) (by kernel_rfl) (by decide) hCl (by kernel_rfl) (by kernel_rfl) (by kernel_rfl) (fun _ _ _ h => h) (by rfl) ?hy62 (fun _ _ _ => trivial) (by assumption) (fun hCl' => ?_)
          case hy62 => ((intro w hSw; (try dsimp only at hSw); (try go_split_ands); go_simp); try with_reducible rfl)
          simp only [Act.put, List.setIfInBounds_toArray, List.set_cons_zero, List.set_cons_succ]
          replace hCl := hCl'; clear hCl'
          refine takeG (i := 14) (d := (some 101)) (v := ?v63) rfl rfl (by kernel_rfl) (by kernel_rfl) (by decide) hCl (by kernel_rfl) (by kernel_rfl) (by kernel_rfl) (fun _ _ _ h => h) (by rfl) ?hy63 (fun _ _ _ => trivial) (by assumption) (fun hCl' => ?_)
          case hy63 => ((intro w hSw; (try dsimp only at hSw); (try go_split_ands); go_simp); try with_reducible rfl)
          simp only [Act.put, List.setIfInBounds_toArray, List.set_cons_zero, List.set_cons_succ]
          replace hCl := hCl'; clear hCl'
          refine takeG (i := 23) (d := (some 110)) (v := ?v64) rfl rfl (by kernel_rfl) (by kernel_rfl) (by decide) hCl (by kernel_rfl) (by kernel_rfl) (by kernel_rfl) (fun _ _ _ h => h) (by rfl) ?hy64 (fun _ _ _ => trivial) (by assumption) (fun hCl' => ?_)
          case hy64 => ((intro w hSw; (try dsimp only at hSw); (try go_split_ands); go_simp); try with_reducible rfl)
          simp only [Act.put, List.setIfInBounds_toArray, List.set_cons_zero, List.set_cons_succ]
          replace hCl := hCl'; clear hCl'
          refine nextG (i := 24) (by kernel_rfl) rfl (by rfl) hCl (fun K hK => ?_)
          go_simp
          refine ⟨trivial, (callsIn_wide.2 (HT2.out _)).mono ?_⟩
          rintro e w6 ⟨rfl, u6⟩
          refine hK.out _ _ ⟨⟨hHeld.1.1.trans u6, u6.blk hHeld.1.2.1, u6.blk hHeld.1.2.2⟩, u6.blk hHeld.2.1, u6.cell2 hHeld.2.2.1, u6.cell2 hHeld.2.2.2.1, u6.cell2 hHeld.2.2.2.2.1, u6.cell2 hHeld.2.2.2.2.2⟩ (fun hHeld hCl => ?_)
          clear hK K u6 HT2
          refine nextG (i := 25) (by kernel_rfl) rfl (by rfl) hCl (fun K hK => ?_)
          go_simp
          refine ⟨trivial, (callsIn_wide.2 (HB2.out _)).mono ?_⟩
          rintro e w7 ⟨rfl, u7⟩
          refine hK.out _ _ ⟨⟨hHeld.1.1.trans u7, u7.blk hHeld.1.2.1, u7.blk hHeld.1.2.2⟩, u7.blk hHeld.2.1, u7.cell2 hHeld.2.2.1, u7.cell2 hHeld.2.2.2.1, u7.cell2 hHeld.2.2.2.2.1, u7.cell2 hHeld.2.2.2.2.2⟩ (fun hHeld hCl => ?_)
          clear hK K u7 HB2
          refine takeG (i := 26) (d := (some 113)) (v := ?v67) rfl rfl (by kernel_rfl) (by kernel_rfl) (by decide) hCl (by kernel_rfl) (by kernel_rfl) (by kernel_rfl) (fun _ _ _ h => h) (by rfl) ?hy67 (fun _ _ _ => trivial) (by assumption) (fun hCl' => ?_)
          case hy67 => ((intro w hSw; (try dsimp only at hSw); (try go_split_ands); go_simp); try with_reducible rfl)
          simp only [Act.put, List.setIfInBounds_toArray, List.set_cons_zero, List.set_cons_succ]
          replace hCl := hCl'; clear hCl'
          obtain ⟨⟨V8, k8, g8⟩, _, c8, c9, _⟩ := hHeld
          have zf := frozB g8
          have n01 : ¬ u * 2 = u * 2 + 1 := by omega
          clear hCl
          refine lastG (i := 27) (by kernel_rfl) rfl (by rfl) (by decide) (fun K hK => ?_)
          go_simp
          have V2 := (V8.set (p := ⟨g, u * 2, none⟩) (show w.heap.size ≤ g by omega) (.int .i64 m1)).set (p := ⟨g, u * 2 + 1, none⟩) (show w.heap.size ≤ g by omega) (.int .i64 m2)
          have k2 := k8
          rw [← blk_set w7 ⟨g, u * 2, none⟩ (.int .i64 m1) w.heap.size (by show w.heap.size ≠ g; omega), ← blk_set (w7.setCell ⟨g, u * 2, none⟩ (.int .i64 m1)) ⟨g, u * 2 + 1, none⟩ (.int .i64 m2) w.heap.size (by show w.heap.size ≠ g; omega)] at k2
          have p3 := blk_put (blk_put g8 (u * 2) (.int .i64 m1)) (u * 2 + 1) (.int .i64 m2)
          obtain ⟨W9, hW9⟩ : ∃ W, (w7.setCell ⟨g, u * 2, none⟩ (.int .i64 m1)).setCell ⟨g, u * 2 + 1, none⟩ (.int .i64 m2) = W := ⟨_, rfl⟩
          rw [hW9] at V2 k2 p3
          try rw [hW9]
          refine hK.out _ _ ?_
          clear hK K hW9 V8 k8 g8 zf c8 c9 n01
          refine doneG (by kernel_rfl) ?_ _
          refine S.nrm_intro ?_
          have wz2 : IntKind.i64.wrap ((u : Int) - 1) = (u : Int) - 1 := IntWalk.i64_in _ (by omega)
          go_wp2_with fail
          go_roundw
          case rel => exact ⟨u, _, _, _, by omega, rfl, rfl, HBn.out, V2, k2, p3, HA2.out⟩
          case measure => (simp [intOf]; try omega)
end

end Go.Proofs.Ytcadpdbadgejfaa
