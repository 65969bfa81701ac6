import Derived.Test.YtcadpdbadgejfaaDir
import Derived.Maps.AppendAt
/- The contracts of scale's newKnown: what each tick can add. -/
namespace Go.Proofs.Ytcadpdbadgejfaa
open Go.RowKit

/-- a map of what is known, in memory -/
abbrev S.Own (w : World) (m n : Nat) (M : DataW Nat) : Prop := w.ownsMap Try.prog 130 (plainElem (H := Nat) Try.prog 3) m n M
/-- .. when one direction's ticks are known, too -/
def S.knew (e j : Int) (p : Int) (t : Nat) (g : Int → Int → Int) : Int → Int → Int := fun a b => if b = p ∧ 1 ≤ a ∧ a ≤ t then S.can e j a.toNat else g a b
theorem S.knew_zero (e j p : Int) (g : Int → Int → Int) (a b : Int) : g a b = S.knew e j p 0 g a b := by
  unfold S.knew
  rw [if_neg]; omega
theorem S.knew_succ (e j p : Int) (t : Nat) (g : Int → Int → Int) (a b : Int) : S.upd (S.knew e j p t g) ((t + 1 : Nat) : Int) p (S.can e j (t + 1)) a b = S.knew e j p (t + 1) g a b := by
  unfold S.upd S.knew
  by_cases h : a = ((t + 1 : Nat) : Int) ∧ b = p
  · obtain ⟨rfl, rfl⟩ := h
    rw [if_pos ⟨rfl, rfl⟩, if_pos ⟨rfl, by omega, by omega⟩, Int.toNat_natCast]
  · rw [if_neg h]
    by_cases h2 : b = p ∧ 1 ≤ a ∧ a ≤ (t : Int)
    · rw [if_pos h2, if_pos ⟨h2.1, h2.2.1, by omega⟩]
    · rw [if_neg h2, if_neg]
      rintro ⟨h3, h4, h5⟩
      by_cases h6 : a = ((t + 1 : Nat) : Int)
      · exact h ⟨h6, h3⟩
      · exact h2 ⟨h3, h4, by omega⟩
theorem up_grown {w w' : World} (h : Up w w') (r : Option Nat) : w.grownBy w' r := ⟨h.os, h.tape, h.output, h.size, fun k hk _ => Below.block h k hk⟩

set_option maxRecDepth 100000 in
set_option maxHeartbeats 1000000 in
theorem can_slowest {f s j dl dh e sg p : Int} {bc br bd bk bp m : Nat} (hj : 1 ≤ j) (hj2 : j ≤ 500) (he : 0 ≤ e) (he2 : e ≤ 500) (hp : D.in64 p) (hm : m ≠ bc ∧ m ≠ br ∧ m ≠ bd ∧ m ≠ bk ∧ m ≠ bp)
    (HF : ∀ w, Calls Try.prog 101 #[RV f s j dl dh] w fun x w' => x = .returned (.int .i64 e) ∧ Up w w') (g : Int → Int → Int) (t : Nat) (ht : t ≤ 100) : ∀ (n : Nat) (M : DataW Nat) (w : World), n ≤ 1000000 →
    mblk w bc = some (.cells #[.func (.func 88) #[] #[.pointer (some ⟨bc, 0, none⟩), .pointer (some ⟨br, 0, none⟩), .pointer (some ⟨bd, 0, none⟩), .pointer (some ⟨bk, 0, none⟩), .pointer (some ⟨bp, 0, none⟩)]] 61 (0, 0)) →
    mblk w br = some (.cells #[.int .i64 f, .int .i64 s, .int .i64 j, .int .i64 dl, .int .i64 dh] 79 (0, 0)) → mblk w bd = some (.cells #[.int .i64 sg, .func (.func 101) #[] #[]] 126 (0, 0)) →
    mblk w bk = some (.cells #[.map (some m)] 86 (0, 0)) → mblk w bp = some (.cells #[.int .i64 p] 3 (0, 0)) → S.Own w m n M → S.MapIs M g →
    Calls Try.prog 88 #[.int .i64 t, .pointer (some ⟨bc, 0, none⟩), .pointer (some ⟨br, 0, none⟩), .pointer (some ⟨bd, 0, none⟩), .pointer (some ⟨bk, 0, none⟩), .pointer (some ⟨bp, 0, none⟩)] w fun x w' =>
      x = .returned (.int .i64 (S.can e j t)) ∧ ∃ n' M', w.grownBy w' (some m) ∧ S.Own w' m n' M' ∧ S.MapIs M' (S.knew e j p t g) ∧ n' ≤ n + t := by
  have HFF := Lib.hid HF
  obtain ⟨m1, m2, m3, m4, m5⟩ := hm
  clear HF
  induction t with
  | zero =>
    intro n M w hn k1 k2 k3 k4 k5 hown hM
    have HO := Lib.hid hown
    have HM := Lib.hid hM
    clear hown hM
    go_enter Try.func88, Try.ntmps88
    go_wp2
    go_ret
    exact ⟨rfl, n, M, up_grown (Up.refl w) _, HO.out, HM.out.cong (S.knew_zero e j p g), Nat.le_refl _⟩
  | succ t ih =>
    intro n M w hn k1 k2 k3 k4 k5 hown hM
    have IH := Lib.hid (fun w' (u : Up w w') => ih (by omega) n M w' hn (u.blk k1) (u.blk k2) (u.blk k3) (u.blk k4) (u.blk k5) (hown.kept (up_grown u none) (by simp)) hM)
    obtain ⟨cb1, cb2⟩ := S.can_bd (e := e) (j := j) he (by omega) t
    obtain ⟨v, hv⟩ : ∃ v, S.can e j t + j = v := ⟨_, rfl⟩
    have hE : Hid (S.can e j (t + 1) = min v e) := by rw [← hv]; rfl
    have ew : IntKind.i64.wrap (S.can e j t + j) = v := by rw [IntWalk.i64_in _ (by omega)]; exact hv
    have hMn : ∀ (ts : Array TypeId) (t' : TypeId) (w : World), (Builtin.min_ ts t' #[.int .i64 v, .int .i64 e]).run Try.prog w = .ok (.int .i64 (S.can e j (t + 1))) w := fun ts t' w => by
      have q : (if e < v then e else v) = S.can e j (t + 1) := by rw [hE.out]; split <;> omega
      rw [run_min_int2, q]
    have et : ((((t + 1 : Nat) : Int) == 0)) = false := by simp; omega
    have e2 : IntKind.i64.wrap ((((t + 1 : Nat) : Int)) - 1) = (t : Int) := by rw [IntWalk.i64_in _ (by omega)]; omega
    obtain ⟨cv, hcv⟩ : ∃ cv, S.can e j (t + 1) = cv := ⟨_, rfl⟩
    rw [hcv] at hMn ⊢
    obtain ⟨ct, hct⟩ : ∃ ct, S.can e j t = ct := ⟨_, rfl⟩
    rw [hct] at ew IH
    have HCV := Lib.hid hcv
    obtain ⟨T, hT⟩ : ∃ T : Int, (((t + 1 : Nat) : Int)) = T := ⟨_, rfl⟩
    rw [hT] at et e2 ⊢
    have HT := Lib.hid hT
    have T1 : 1 ≤ T ∧ T ≤ 101 := by omega
    clear ih hE hcv hv hct cb1 cb2 hM hown hT
    go_enter Try.func88, Try.ntmps88
    go_wp2_with fail
    refine wp_region_held_drew (S := fun w' => mblk w' bc = some (.cells #[.func (.func 88) #[] #[.pointer (some ⟨bc, 0, none⟩), .pointer (some ⟨br, 0, none⟩), .pointer (some ⟨bd, 0, none⟩), .pointer (some ⟨bk, 0, none⟩), .pointer (some ⟨bp, 0, none⟩)]] 61 (0, 0)) ∧ mblk w' br = some (.cells #[.int .i64 f, .int .i64 s, .int .i64 j, .int .i64 dl, .int .i64 dh] 79 (0, 0)) ∧ mblk w' bd = some (.cells #[.int .i64 sg, .func (.func 101) #[] #[]] 126 (0, 0)) ∧ mblk w' bk = some (.cells #[.map (some m)] 86 (0, 0)) ∧ mblk w' bp = some (.cells #[.int .i64 p] 3 (0, 0))) (by kernel_rfl) ⟨by rw [blk_drew]; exact k1, by rw [blk_drew]; exact k2, by rw [blk_drew]; exact k3, by rw [blk_drew]; exact k4, by rw [blk_drew]; exact k5⟩ (fun hHeld => ?_)
    clear k1 k2 k3 k4 k5
    refine takeH (i := 0) (d := (some 11)) (v := ?v1) rfl rfl (by kernel_rfl) (by kernel_rfl) (by kernel_rfl) (fun _ _ _ h => h) (by rfl) ?hy1 (by assumption) ?_
    case hy1 => ((intro w hSw; (try dsimp only at hSw); (try go_split_ands); go_simp); try with_reducible rfl)
    simp only [Act.put, List.setIfInBounds_toArray, List.set_cons_zero, List.set_cons_succ]
    refine takeH (i := 1) (d := (some 12)) (v := ?v2) rfl rfl (by kernel_rfl) (by kernel_rfl) (by kernel_rfl) (fun _ _ _ h => h) (by rfl) ?hy2 (by assumption) ?_
    case hy2 => ((intro w hSw; (try dsimp only at hSw); (try go_split_ands); go_simp); try with_reducible rfl)
    simp only [Act.put, List.setIfInBounds_toArray, List.set_cons_zero, List.set_cons_succ]
    refine takeH (i := 4) (d := (some 15)) (v := ?v3) rfl rfl (by kernel_rfl) (by kernel_rfl) (by kernel_rfl) (fun _ _ _ h => h) (by rfl) ?hy3 (by assumption) ?_
    case hy3 => ((intro w hSw; (try dsimp only at hSw); (try go_split_ands); go_simp); try with_reducible rfl)
    simp only [Act.put, List.setIfInBounds_toArray, List.set_cons_zero, List.set_cons_succ]
    refine takeH (i := 8) (d := (some 19)) (v := ?v4) rfl rfl (by kernel_rfl) (by kernel_rfl) (by kernel_rfl) (fun _ _ _ h => h) (by rfl) ?hy4 (by assumption) ?_
    case hy4 => ((intro w hSw; (try dsimp only at hSw); (try go_split_ands); go_simp); try with_reducible rfl)
    simp only [Act.put, List.setIfInBounds_toArray, List.set_cons_zero, List.set_cons_succ]
    refine takeH (i := 10) (d := (some 21)) (v := ?v5) rfl rfl (by kernel_rfl) (by kernel_rfl) (by kernel_rfl) (fun _ _ _ h => h) (by rfl) ?hy5 (by assumption) ?_
    case hy5 => ((intro w hSw; (try dsimp only at hSw); (try go_split_ands); go_simp); try with_reducible rfl)
    simp only [Act.put, List.setIfInBounds_toArray, List.set_cons_zero, List.set_cons_succ]
    refine takeH (i := 2) (d := (some 13)) (v := ?v6) rfl rfl (by kernel_rfl) (by kernel_rfl) (by kernel_rfl) (fun _ _ _ h => h) (by rfl) ?hy6 (by assumption) ?_
    case hy6 => ((intro w hSw; (try dsimp only at hSw); (try go_split_ands); go_simp); try with_reducible rfl)
    simp only [Act.put, List.setIfInBounds_toArray, List.set_cons_zero, List.set_cons_succ]
    refine takeH (i := 5) (d := (some 16)) (v := ?v7) rfl rfl (by kernel_rfl) (by kernel_rfl) (by kernel_rfl) (fun _ _ _ h => h) (by rfl) ?hy7 (by assumption) ?_
    case hy7 => ((intro w hSw; (try dsimp only at hSw); (try go_split_ands); go_simp); try with_reducible rfl)
    simp only [Act.put, List.setIfInBounds_toArray, List.set_cons_zero, List.set_cons_succ]
    refine takeH (i := 9) (d := (some 20)) (v := ?v8) rfl rfl (by kernel_rfl) (by kernel_rfl) (by kernel_rfl) (fun _ _ _ h => h) (by rfl) ?hy8 (by assumption) ?_
    case hy8 => ((intro w hSw; (try dsimp only at hSw); (try go_split_ands); go_simp); try with_reducible rfl)
    simp only [Act.put, List.setIfInBounds_toArray, List.set_cons_zero, List.set_cons_succ]
    refine takeH (i := 6) (d := (some 17)) (v := ?v9) rfl rfl (by kernel_rfl) (by kernel_rfl) (by kernel_rfl) (fun _ _ _ h => h) (by rfl) ?hy9 (by assumption) ?_
    case hy9 => ((intro w hSw; (try dsimp only at hSw); (try go_split_ands); go_simp); try with_reducible rfl)
    simp only [Act.put, List.setIfInBounds_toArray, List.set_cons_zero, List.set_cons_succ]
    refine wpAnyH_ready (rs := [3]) (by kernel_rfl) (by simp) ?_
    refine AllReadyH.cons rfl (fun K hK => ?_) AllReadyH.nil
    go_simp
    refine (IH.out _ (Up.refl w).drew).mono ?_
    rintro x w1 ⟨rfl, n1, M1, g1, o1, h1, l1⟩
    go_wp2_with fail
    refine hK.out _ _ ⟨(g1.block bc (blk_lt hHeld.1) (by simp; omega)).trans hHeld.1, (g1.block br (blk_lt hHeld.2.1) (by simp; omega)).trans hHeld.2.1, (g1.block bd (blk_lt hHeld.2.2.1) (by simp; omega)).trans hHeld.2.2.1, (g1.block bk (blk_lt hHeld.2.2.2.1) (by simp; omega)).trans hHeld.2.2.2.1, (g1.block bp (blk_lt hHeld.2.2.2.2) (by simp; omega)).trans hHeld.2.2.2.2⟩ (fun hHeld => ?_)
    clear hK K IH
    refine takeH (i := 7) (d := (some 18)) (v := ?v11) rfl rfl (by kernel_rfl) (by kernel_rfl) (by kernel_rfl) (fun _ _ _ h => h) (by rfl) ?hy11 (by assumption) ?_
    case hy11 => ((intro w hSw; (try dsimp only at hSw); (try go_split_ands); go_simp); try with_reducible rfl)
    simp only [Act.put, List.setIfInBounds_toArray, List.set_cons_zero, List.set_cons_succ]
    refine wpAnyH_ready (rs := [11]) (by kernel_rfl) (by simp) ?_
    refine AllReadyH.cons rfl (fun K hK => ?_) AllReadyH.nil
    go_simp
    refine (HFF.out _).mono ?_
    rintro x w2 ⟨rfl, u2⟩
    go_wp2_with fail
    refine hK.out _ _ ⟨u2.blk hHeld.1, u2.blk hHeld.2.1, u2.blk hHeld.2.2.1, u2.blk hHeld.2.2.2.1, u2.blk hHeld.2.2.2.2⟩ (fun hHeld => ?_)
    clear hK K
    refine takeH (i := 12) (d := (some 23)) (v := .int .i64 cv) rfl rfl (by kernel_rfl) (by kernel_rfl) (by kernel_rfl) (fun _ _ _ h => h) (by rfl) ?hymin (by assumption) ?_
    case hymin => ((intro w hSw; (try dsimp only at hSw); go_simp); try with_reducible rfl)
    simp only [Act.put, List.setIfInBounds_toArray, List.set_cons_zero, List.set_cons_succ]
    refine takeH (i := 13) (d := (some 8)) (v := ?v13) rfl rfl (by kernel_rfl) (by kernel_rfl) (by kernel_rfl) (fun _ _ _ h => h) (by rfl) ?hy13 (by assumption) ?_
    case hy13 => ((intro w hSw; (try dsimp only at hSw); (try go_split_ands); go_simp); try with_reducible rfl)
    simp only [Act.put, List.setIfInBounds_toArray, List.set_cons_zero, List.set_cons_succ]
    refine wpAnyH_done (by kernel_rfl) ?_ _
    obtain ⟨k1, k2, k3, k4, k5⟩ := hHeld
    have o2 := o1.kept (up_grown u2 none) (by simp)
    have G2 : w.grownBy w2 (some m) := ((up_grown (Up.refl w).drew (some m)).trans g1).trans (up_grown u2 (some m))
    have hkey := keyOf_key (a := T) (b := p) ⟨by omega, by omega⟩ hp
    have hcb := S.can_bd (e := e) (j := j) he (by omega) (t + 1)
    have hel := plainElem_int (H := Nat) Try.underlying3 (a := cv) (D.in64.wf ⟨by have := HCV.out; omega, by have := HCV.out; omega⟩)
    clear u2 g1 o1 k1 k2 k3 hMn HFF hcb
    go_wp2_with (at_mapUpdate; refine wpList_mapUpdate_own _ rfl _ _ _ 86 rfl 130 3 lawKey Try.underlying86 _ m n1 _ rfl o2 (by unfold maxLen; omega) _ _ _ rfl rfl hkey _ [] hel ?_; intro w3 o3 g3)
    go_ret
    refine ⟨rfl, n1 + 1, _, G2.trans g3, o3, (h1.put ⟨by omega, by omega⟩ hp cv).cong fun a b => ?_, by omega⟩
    rw [← HT.out, ← HCV.out]
    exact S.knew_succ e j p t g a b

set_option maxRecDepth 100000 in
set_option maxHeartbeats 1000000 in
theorem can_unsteered {f s j dl dh e sg p : Int} {bc br bd bk bp m : Nat} (hj : 1 ≤ j) (hj2 : j ≤ 500) (he : 0 ≤ e) (he2 : e ≤ 500) (hp : D.in64 p) (hm : m ≠ bc ∧ m ≠ br ∧ m ≠ bd ∧ m ≠ bk ∧ m ≠ bp)
    (HF : ∀ w, Calls Try.prog 102 #[RV f s j dl dh] w fun x w' => x = .returned (.int .i64 e) ∧ Up w w') (g : Int → Int → Int) (t : Nat) (ht : t ≤ 100) : ∀ (n : Nat) (M : DataW Nat) (w : World), n ≤ 1000000 →
    mblk w bc = some (.cells #[.func (.func 88) #[] #[.pointer (some ⟨bc, 0, none⟩), .pointer (some ⟨br, 0, none⟩), .pointer (some ⟨bd, 0, none⟩), .pointer (some ⟨bk, 0, none⟩), .pointer (some ⟨bp, 0, none⟩)]] 61 (0, 0)) →
    mblk w br = some (.cells #[.int .i64 f, .int .i64 s, .int .i64 j, .int .i64 dl, .int .i64 dh] 79 (0, 0)) → mblk w bd = some (.cells #[.int .i64 sg, .func (.func 102) #[] #[]] 126 (0, 0)) →
    mblk w bk = some (.cells #[.map (some m)] 86 (0, 0)) → mblk w bp = some (.cells #[.int .i64 p] 3 (0, 0)) → S.Own w m n M → S.MapIs M g →
    Calls Try.prog 88 #[.int .i64 t, .pointer (some ⟨bc, 0, none⟩), .pointer (some ⟨br, 0, none⟩), .pointer (some ⟨bd, 0, none⟩), .pointer (some ⟨bk, 0, none⟩), .pointer (some ⟨bp, 0, none⟩)] w fun x w' =>
      x = .returned (.int .i64 (S.can e j t)) ∧ ∃ n' M', w.grownBy w' (some m) ∧ S.Own w' m n' M' ∧ S.MapIs M' (S.knew e j p t g) ∧ n' ≤ n + t := by
  have HFF := Lib.hid HF
  obtain ⟨m1, m2, m3, m4, m5⟩ := hm
  clear HF
  induction t with
  | zero =>
    intro n M w hn k1 k2 k3 k4 k5 hown hM
    have HO := Lib.hid hown
    have HM := Lib.hid hM
    clear hown hM
    go_enter Try.func88, Try.ntmps88
    go_wp2
    go_ret
    exact ⟨rfl, n, M, up_grown (Up.refl w) _, HO.out, HM.out.cong (S.knew_zero e j p g), Nat.le_refl _⟩
  | succ t ih =>
    intro n M w hn k1 k2 k3 k4 k5 hown hM
    have IH := Lib.hid (fun w' (u : Up w w') => ih (by omega) n M w' hn (u.blk k1) (u.blk k2) (u.blk k3) (u.blk k4) (u.blk k5) (hown.kept (up_grown u none) (by simp)) hM)
    obtain ⟨cb1, cb2⟩ := S.can_bd (e := e) (j := j) he (by omega) t
    obtain ⟨v, hv⟩ : ∃ v, S.can e j t + j = v := ⟨_, rfl⟩
    have hE : Hid (S.can e j (t + 1) = min v e) := by rw [← hv]; rfl
    have ew : IntKind.i64.wrap (S.can e j t + j) = v := by rw [IntWalk.i64_in _ (by omega)]; exact hv
    have hMn : ∀ (ts : Array TypeId) (t' : TypeId) (w : World), (Builtin.min_ ts t' #[.int .i64 v, .int .i64 e]).run Try.prog w = .ok (.int .i64 (S.can e j (t + 1))) w := fun ts t' w => by
      have q : (if e < v then e else v) = S.can e j (t + 1) := by rw [hE.out]; split <;> omega
      rw [run_min_int2, q]
    have et : ((((t + 1 : Nat) : Int) == 0)) = false := by simp; omega
    have e2 : IntKind.i64.wrap ((((t + 1 : Nat) : Int)) - 1) = (t : Int) := by rw [IntWalk.i64_in _ (by omega)]; omega
    obtain ⟨cv, hcv⟩ : ∃ cv, S.can e j (t + 1) = cv := ⟨_, rfl⟩
    rw [hcv] at hMn ⊢
    obtain ⟨ct, hct⟩ : ∃ ct, S.can e j t = ct := ⟨_, rfl⟩
    rw [hct] at ew IH
    have HCV := Lib.hid hcv
    obtain ⟨T, hT⟩ : ∃ T : Int, (((t + 1 : Nat) : Int)) = T := ⟨_, rfl⟩
    rw [hT] at et e2 ⊢
    have HT := Lib.hid hT
    have T1 : 1 ≤ T ∧ T ≤ 101 := by omega
    clear ih hE hcv hv hct cb1 cb2 hM hown hT
    go_enter Try.func88, Try.ntmps88
    go_wp2_with fail
    refine wp_region_held_drew (S := fun w' => mblk w' bc = some (.cells #[.func (.func 88) #[] #[.pointer (some ⟨bc, 0, none⟩), .pointer (some ⟨br, 0, none⟩), .pointer (some ⟨bd, 0, none⟩), .pointer (some ⟨bk, 0, none⟩), .pointer (some ⟨bp, 0, none⟩)]] 61 (0, 0)) ∧ mblk w' br = some (.cells #[.int .i64 f, .int .i64 s, .int .i64 j, .int .i64 dl, .int .i64 dh] 79 (0, 0)) ∧ mblk w' bd = some (.cells #[.int .i64 sg, .func (.func 102) #[] #[]] 126 (0, 0)) ∧ mblk w' bk = some (.cells #[.map (some m)] 86 (0, 0)) ∧ mblk w' bp = some (.cells #[.int .i64 p] 3 (0, 0))) (by kernel_rfl) ⟨by rw [blk_drew]; exact k1, by rw [blk_drew]; exact k2, by rw [blk_drew]; exact k3, by rw [blk_drew]; exact k4, by rw [blk_drew]; exact k5⟩ (fun hHeld => ?_)
    clear k1 k2 k3 k4 k5
    refine takeH (i := 0) (d := (some 11)) (v := ?v14) rfl rfl (by kernel_rfl) (by kernel_rfl) (by kernel_rfl) (fun _ _ _ h => h) (by rfl) ?hy14 (by assumption) ?_
    case hy14 => ((intro w hSw; (try dsimp only at hSw); (try go_split_ands); go_simp); try with_reducible rfl)
    simp only [Act.put, List.setIfInBounds_toArray, List.set_cons_zero, List.set_cons_succ]
    refine takeH (i := 1) (d := (some 12)) (v := ?v15) rfl rfl (by kernel_rfl) (by kernel_rfl) (by kernel_rfl) (fun _ _ _ h => h) (by rfl) ?hy15 (by assumption) ?_
    case hy15 => ((intro w hSw; (try dsimp only at hSw); (try go_split_ands); go_simp); try with_reducible rfl)
    simp only [Act.put, List.setIfInBounds_toArray, List.set_cons_zero, List.set_cons_succ]
    refine takeH (i := 4) (d := (some 15)) (v := ?v16) rfl rfl (by kernel_rfl) (by kernel_rfl) (by kernel_rfl) (fun _ _ _ h => h) (by rfl) ?hy16 (by assumption) ?_
    case hy16 => ((intro w hSw; (try dsimp only at hSw); (try go_split_ands); go_simp); try with_reducible rfl)
    simp only [Act.put, List.setIfInBounds_toArray, List.set_cons_zero, List.set_cons_succ]
    refine takeH (i := 8) (d := (some 19)) (v := ?v17) rfl rfl (by kernel_rfl) (by kernel_rfl) (by kernel_rfl) (fun _ _ _ h => h) (by rfl) ?hy17 (by assumption) ?_
    case hy17 => ((intro w hSw; (try dsimp only at hSw); (try go_split_ands); go_simp); try with_reducible rfl)
    simp only [Act.put, List.setIfInBounds_toArray, List.set_cons_zero, List.set_cons_succ]
    refine takeH (i := 10) (d := (some 21)) (v := ?v18) rfl rfl (by kernel_rfl) (by kernel_rfl) (by kernel_rfl) (fun _ _ _ h => h) (by rfl) ?hy18 (by assumption) ?_
    case hy18 => ((intro w hSw; (try dsimp only at hSw); (try go_split_ands); go_simp); try with_reducible rfl)
    simp only [Act.put, List.setIfInBounds_toArray, List.set_cons_zero, List.set_cons_succ]
    refine takeH (i := 2) (d := (some 13)) (v := ?v19) rfl rfl (by kernel_rfl) (by kernel_rfl) (by kernel_rfl) (fun _ _ _ h => h) (by rfl) ?hy19 (by assumption) ?_
    case hy19 => ((intro w hSw; (try dsimp only at hSw); (try go_split_ands); go_simp); try with_reducible rfl)
    simp only [Act.put, List.setIfInBounds_toArray, List.set_cons_zero, List.set_cons_succ]
    refine takeH (i := 5) (d := (some 16)) (v := ?v20) rfl rfl (by kernel_rfl) (by kernel_rfl) (by kernel_rfl) (fun _ _ _ h => h) (by rfl) ?hy20 (by assumption) ?_
    case hy20 => ((intro w hSw; (try dsimp only at hSw); (try go_split_ands); go_simp); try with_reducible rfl)
    simp only [Act.put, List.setIfInBounds_toArray, List.set_cons_zero, List.set_cons_succ]
    refine takeH (i := 9) (d := (some 20)) (v := ?v21) rfl rfl (by kernel_rfl) (by kernel_rfl) (by kernel_rfl) (fun _ _ _ h => h) (by rfl) ?hy21 (by assumption) ?_
    case hy21 => ((intro w hSw; (try dsimp only at hSw); (try go_split_ands); go_simp); try with_reducible rfl)
    simp only [Act.put, List.setIfInBounds_toArray, List.set_cons_zero, List.set_cons_succ]
    refine takeH (i := 6) (d := (some 17)) (v := ?v22) rfl rfl (by kernel_rfl) (by kernel_rfl) (by kernel_rfl) (fun _ _ _ h => h) (by rfl) ?hy22 (by assumption) ?_
    case hy22 => ((intro w hSw; (try dsimp only at hSw); (try go_split_ands); go_simp); try with_reducible rfl)
    simp only [Act.put, List.setIfInBounds_toArray, List.set_cons_zero, List.set_cons_succ]
    refine wpAnyH_ready (rs := [3]) (by kernel_rfl) (by simp) ?_
    refine AllReadyH.cons rfl (fun K hK => ?_) AllReadyH.nil
    go_simp
    refine (IH.out _ (Up.refl w).drew).mono ?_
    rintro x w1 ⟨rfl, n1, M1, g1, o1, h1, l1⟩
    go_wp2_with fail
    refine hK.out _ _ ⟨(g1.block bc (blk_lt hHeld.1) (by simp; omega)).trans hHeld.1, (g1.block br (blk_lt hHeld.2.1) (by simp; omega)).trans hHeld.2.1, (g1.block bd (blk_lt hHeld.2.2.1) (by simp; omega)).trans hHeld.2.2.1, (g1.block bk (blk_lt hHeld.2.2.2.1) (by simp; omega)).trans hHeld.2.2.2.1, (g1.block bp (blk_lt hHeld.2.2.2.2) (by simp; omega)).trans hHeld.2.2.2.2⟩ (fun hHeld => ?_)
    clear hK K IH
    refine takeH (i := 7) (d := (some 18)) (v := ?v24) rfl rfl (by kernel_rfl) (by kernel_rfl) (by kernel_rfl) (fun _ _ _ h => h) (by rfl) ?hy24 (by assumption) ?_
    case hy24 => ((intro w hSw; (try dsimp only at hSw); (try go_split_ands); go_simp); try with_reducible rfl)
    simp only [Act.put, List.setIfInBounds_toArray, List.set_cons_zero, List.set_cons_succ]
    refine wpAnyH_ready (rs := [11]) (by kernel_rfl) (by simp) ?_
    refine AllReadyH.cons rfl (fun K hK => ?_) AllReadyH.nil
    go_simp
    refine (HFF.out _).mono ?_
    rintro x w2 ⟨rfl, u2⟩
    go_wp2_with fail
    refine hK.out _ _ ⟨u2.blk hHeld.1, u2.blk hHeld.2.1, u2.blk hHeld.2.2.1, u2.blk hHeld.2.2.2.1, u2.blk hHeld.2.2.2.2⟩ (fun hHeld => ?_)
    clear hK K
    refine takeH (i := 12) (d := (some 23)) (v := .int .i64 cv) rfl rfl (by kernel_rfl) (by kernel_rfl) (by kernel_rfl) (fun _ _ _ h => h) (by rfl) ?hymin (by assumption) ?_
    case hymin => ((intro w hSw; (try dsimp only at hSw); go_simp); try with_reducible rfl)
    simp only [Act.put, List.setIfInBounds_toArray, List.set_cons_zero, List.set_cons_succ]
    refine takeH (i := 13) (d := (some 8)) (v := ?v26) rfl rfl (by kernel_rfl) (by kernel_rfl) (by kernel_rfl) (fun _ _ _ h => h) (by rfl) ?hy26 (by assumption) ?_
    case hy26 => ((intro w hSw; (try dsimp only at hSw); (try go_split_ands); go_simp); try with_reducible rfl)
    simp only [Act.put, List.setIfInBounds_toArray, List.set_cons_zero, List.set_cons_succ]
    refine wpAnyH_done (by kernel_rfl) ?_ _
    obtain ⟨k1, k2, k3, k4, k5⟩ := hHeld
    have o2 := o1.kept (up_grown u2 none) (by simp)
    have G2 : w.grownBy w2 (some m) := ((up_grown (Up.refl w).drew (some m)).trans g1).trans (up_grown u2 (some m))
    have hkey := keyOf_key (a := T) (b := p) ⟨by omega, by omega⟩ hp
    have hcb := S.can_bd (e := e) (j := j) he (by omega) (t + 1)
    have hel := plainElem_int (H := Nat) Try.underlying3 (a := cv) (D.in64.wf ⟨by have := HCV.out; omega, by have := HCV.out; omega⟩)
    clear u2 g1 o1 k1 k2 k3 hMn HFF hcb
    go_wp2_with (at_mapUpdate; refine wpList_mapUpdate_own _ rfl _ _ _ 86 rfl 130 3 lawKey Try.underlying86 _ m n1 _ rfl o2 (by unfold maxLen; omega) _ _ _ rfl rfl hkey _ [] hel ?_; intro w3 o3 g3)
    go_ret
    refine ⟨rfl, n1 + 1, _, G2.trans g3, o3, (h1.put ⟨by omega, by omega⟩ hp cv).cong fun a b => ?_, by omega⟩
    rw [← HT.out, ← HCV.out]
    exact S.knew_succ e j p t g a b

set_option maxRecDepth 100000 in
set_option maxHeartbeats 1000000 in
theorem can_fastest {f s j dl dh e sg p : Int} {bc br bd bk bp m : Nat} (hj : 1 ≤ j) (hj2 : j ≤ 500) (he : 0 ≤ e) (he2 : e ≤ 500) (hp : D.in64 p) (hm : m ≠ bc ∧ m ≠ br ∧ m ≠ bd ∧ m ≠ bk ∧ m ≠ bp)
    (HF : ∀ w, Calls Try.prog 103 #[RV f s j dl dh] w fun x w' => x = .returned (.int .i64 e) ∧ Up w w') (g : Int → Int → Int) (t : Nat) (ht : t ≤ 100) : ∀ (n : Nat) (M : DataW Nat) (w : World), n ≤ 1000000 →
    mblk w bc = some (.cells #[.func (.func 88) #[] #[.pointer (some ⟨bc, 0, none⟩), .pointer (some ⟨br, 0, none⟩), .pointer (some ⟨bd, 0, none⟩), .pointer (some ⟨bk, 0, none⟩), .pointer (some ⟨bp, 0, none⟩)]] 61 (0, 0)) →
    mblk w br = some (.cells #[.int .i64 f, .int .i64 s, .int .i64 j, .int .i64 dl, .int .i64 dh] 79 (0, 0)) → mblk w bd = some (.cells #[.int .i64 sg, .func (.func 103) #[] #[]] 126 (0, 0)) →
    mblk w bk = some (.cells #[.map (some m)] 86 (0, 0)) → mblk w bp = some (.cells #[.int .i64 p] 3 (0, 0)) → S.Own w m n M → S.MapIs M g →
    Calls Try.prog 88 #[.int .i64 t, .pointer (some ⟨bc, 0, none⟩), .pointer (some ⟨br, 0, none⟩), .pointer (some ⟨bd, 0, none⟩), .pointer (some ⟨bk, 0, none⟩), .pointer (some ⟨bp, 0, none⟩)] w fun x w' =>
      x = .returned (.int .i64 (S.can e j t)) ∧ ∃ n' M', w.grownBy w' (some m) ∧ S.Own w' m n' M' ∧ S.MapIs M' (S.knew e j p t g) ∧ n' ≤ n + t := by
  have HFF := Lib.hid HF
  obtain ⟨m1, m2, m3, m4, m5⟩ := hm
  clear HF
  induction t with
  | zero =>
    intro n M w hn k1 k2 k3 k4 k5 hown hM
    have HO := Lib.hid hown
    have HM := Lib.hid hM
    clear hown hM
    go_enter Try.func88, Try.ntmps88
    go_wp2
    go_ret
    exact ⟨rfl, n, M, up_grown (Up.refl w) _, HO.out, HM.out.cong (S.knew_zero e j p g), Nat.le_refl _⟩
  | succ t ih =>
    intro n M w hn k1 k2 k3 k4 k5 hown hM
    have IH := Lib.hid (fun w' (u : Up w w') => ih (by omega) n M w' hn (u.blk k1) (u.blk k2) (u.blk k3) (u.blk k4) (u.blk k5) (hown.kept (up_grown u none) (by simp)) hM)
    obtain ⟨cb1, cb2⟩ := S.can_bd (e := e) (j := j) he (by omega) t
    obtain ⟨v, hv⟩ : ∃ v, S.can e j t + j = v := ⟨_, rfl⟩
    have hE : Hid (S.can e j (t + 1) = min v e) := by rw [← hv]; rfl
    have ew : IntKind.i64.wrap (S.can e j t + j) = v := by rw [IntWalk.i64_in _ (by omega)]; exact hv
    have hMn : ∀ (ts : Array TypeId) (t' : TypeId) (w : World), (Builtin.min_ ts t' #[.int .i64 v, .int .i64 e]).run Try.prog w = .ok (.int .i64 (S.can e j (t + 1))) w := fun ts t' w => by
      have q : (if e < v then e else v) = S.can e j (t + 1) := by rw [hE.out]; split <;> omega
      rw [run_min_int2, q]
    have et : ((((t + 1 : Nat) : Int) == 0)) = false := by simp; omega
    have e2 : IntKind.i64.wrap ((((t + 1 : Nat) : Int)) - 1) = (t : Int) := by rw [IntWalk.i64_in _ (by omega)]; omega
    obtain ⟨cv, hcv⟩ : ∃ cv, S.can e j (t + 1) = cv := ⟨_, rfl⟩
    rw [hcv] at hMn ⊢
    obtain ⟨ct, hct⟩ : ∃ ct, S.can e j t = ct := ⟨_, rfl⟩
    rw [hct] at ew IH
    have HCV := Lib.hid hcv
    obtain ⟨T, hT⟩ : ∃ T : Int, (((t + 1 : Nat) : Int)) = T := ⟨_, rfl⟩
    rw [hT] at et e2 ⊢
    have HT := Lib.hid hT
    have T1 : 1 ≤ T ∧ T ≤ 101 := by omega
    clear ih hE hcv hv hct cb1 cb2 hM hown hT
    go_enter Try.func88, Try.ntmps88
    go_wp2_with fail
    refine wp_region_held_drew (S := fun w' => mblk w' bc = some (.cells #[.func (.func 88) #[] #[.pointer (some ⟨bc, 0, none⟩), .pointer (some ⟨br, 0, none⟩), .pointer (some ⟨bd, 0, none⟩), .pointer (some ⟨bk, 0, none⟩), .pointer (some ⟨bp, 0, none⟩)]] 61 (0, 0)) ∧ mblk w' br = some (.cells #[.int .i64 f, .int .i64 s, .int .i64 j, .int .i64 dl, .int .i64 dh] 79 (0, 0)) ∧ mblk w' bd = some (.cells #[.int .i64 sg, .func (.func 103) #[] #[]] 126 (0, 0)) ∧ mblk w' bk = some (.cells #[.map (some m)] 86 (0, 0)) ∧ mblk w' bp = some (.cells #[.int .i64 p] 3 (0, 0))) (by kernel_rfl) ⟨by rw [blk_drew]; exact k1, by rw [blk_drew]; exact k2, by rw [blk_drew]; exact k3, by rw [blk_drew]; exact k4, by rw [blk_drew]; exact k5⟩ (fun hHeld => ?_)
    clear k1 k2 k3 k4 k5
    refine takeH (i := 0) (d := (some 11)) (v := ?v27) rfl rfl (by kernel_rfl) (by kernel_rfl) (by kernel_rfl) (fun _ _ _ h => h) (by rfl) ?hy27 (by assumption) ?_
    case hy27 => ((intro w hSw; (try dsimp only at hSw); (try go_split_ands); go_simp); try with_reducible rfl)
    simp only [Act.put, List.setIfInBounds_toArray, List.set_cons_zero, List.set_cons_succ]
    refine takeH (i := 1) (d := (some 12)) (v := ?v28) rfl rfl (by kernel_rfl) (by kernel_rfl) (by kernel_rfl) (fun _ _ _ h => h) (by rfl) ?hy28 (by assumption) ?_
    case hy28 => ((intro w hSw; (try dsimp only at hSw); (try go_split_ands); go_simp); try with_reducible rfl)
    simp only [Act.put, List.setIfInBounds_toArray, List.set_cons_zero, List.set_cons_succ]
    refine takeH (i := 4) (d := (some 15)) (v := ?v29) rfl rfl (by kernel_rfl) (by kernel_rfl) (by kernel_rfl) (fun _ _ _ h => h) (by rfl) ?hy29 (by assumption) ?_
    case hy29 => ((intro w hSw; (try dsimp only at hSw); (try go_split_ands); go_simp); try with_reducible rfl)
    simp only [Act.put, List.setIfInBounds_toArray, List.set_cons_zero, List.set_cons_succ]
    refine takeH (i := 8) (d := (some 19)) (v := ?v30) rfl rfl (by kernel_rfl) (by kernel_rfl) (by kernel_rfl) (fun _ _ _ h => h) (by rfl) ?hy30 (by assumption) ?_
    case hy30 => ((intro w hSw; (try dsimp only at hSw); (try go_split_ands); go_simp); try with_reducible rfl)
    simp only [Act.put, List.setIfInBounds_toArray, List.set_cons_zero, List.set_cons_succ]
    refine takeH (i := 10) (d := (some 21)) (v := ?v31) rfl rfl (by kernel_rfl) (by kernel_rfl) (by kernel_rfl) (fun _ _ _ h => h) (by rfl) ?hy31 (by assumption) ?_
    case hy31 => ((intro w hSw; (try dsimp only at hSw); (try go_split_ands); go_simp); try with_reducible rfl)
    simp only [Act.put, List.setIfInBounds_toArray, List.set_cons_zero, List.set_cons_succ]
    refine takeH (i := 2) (d := (some 13)) (v := ?v32) rfl rfl (by kernel_rfl) (by kernel_rfl) (by kernel_rfl) (fun _ _ _ h => h) (by rfl) ?hy32 (by assumption) ?_
    case hy32 => ((intro w hSw; (try dsimp only at hSw); (try go_split_ands); go_simp); try with_reducible rfl)
    simp only [Act.put, List.setIfInBounds_toArray, List.set_cons_zero, List.set_cons_succ]
    refine takeH (i := 5) (d := (some 16)) (v := ?v33) rfl rfl (by kernel_rfl) (by kernel_rfl) (by kernel_rfl) (fun _ _ _ h => h) (by rfl) ?hy33 (by assumption) ?_
    case hy33 => ((intro w hSw; (try dsimp only at hSw); (try go_split_ands); go_simp); try with_reducible rfl)
    simp only [Act.put, List.setIfInBounds_toArray, List.set_cons_zero, List.set_cons_succ]
    refine takeH (i := 9) (d := (some 20)) (v := ?v34) rfl rfl (by kernel_rfl) (by kernel_rfl) (by kernel_rfl) (fun _ _ _ h => h) (by rfl) ?hy34 (by assumption) ?_
    case hy34 => ((intro w hSw; (try dsimp only at hSw); (try go_split_ands); go_simp); try with_reducible rfl)
    simp only [Act.put, List.setIfInBounds_toArray, List.set_cons_zero, List.set_cons_succ]
    refine takeH (i := 6) (d := (some 17)) (v := ?v35) rfl rfl (by kernel_rfl) (by kernel_rfl) (by kernel_rfl) (fun _ _ _ h => h) (by rfl) ?hy35 (by assumption) ?_
    case hy35 => ((intro w hSw; (try dsimp only at hSw); (try go_split_ands); go_simp); try with_reducible rfl)
    simp only [Act.put, List.setIfInBounds_toArray, List.set_cons_zero, List.set_cons_succ]
    refine wpAnyH_ready (rs := [3]) (by kernel_rfl) (by simp) ?_
    refine AllReadyH.cons rfl (fun K hK => ?_) AllReadyH.nil
    go_simp
    refine (IH.out _ (Up.refl w).drew).mono ?_
    rintro x w1 ⟨rfl, n1, M1, g1, o1, h1, l1⟩
    go_wp2_with fail
    refine hK.out _ _ ⟨(g1.block bc (blk_lt hHeld.1) (by simp; omega)).trans hHeld.1, (g1.block br (blk_lt hHeld.2.1) (by simp; omega)).trans hHeld.2.1, (g1.block bd (blk_lt hHeld.2.2.1) (by simp; omega)).trans hHeld.2.2.1, (g1.block bk (blk_lt hHeld.2.2.2.1) (by simp; omega)).trans hHeld.2.2.2.1, (g1.block bp (blk_lt hHeld.2.2.2.2) (by simp; omega)).trans hHeld.2.2.2.2⟩ (fun hHeld => ?_)
    clear hK K IH
    refine takeH (i := 7) (d := (some 18)) (v := ?v37) rfl rfl (by kernel_rfl) (by kernel_rfl) (by kernel_rfl) (fun _ _ _ h => h) (by rfl) ?hy37 (by assumption) ?_
    case hy37 => ((intro w hSw; (try dsimp only at hSw); (try go_split_ands); go_simp); try with_reducible rfl)
    simp only [Act.put, List.setIfInBounds_toArray, List.set_cons_zero, List.set_cons_succ]
    refine wpAnyH_ready (rs := [11]) (by kernel_rfl) (by simp) ?_
    refine AllReadyH.cons rfl (fun K hK => ?_) AllReadyH.nil
    go_simp
    refine (HFF.out _).mono ?_
    rintro x w2 ⟨rfl, u2⟩
    go_wp2_with fail
    refine hK.out _ _ ⟨u2.blk hHeld.1, u2.blk hHeld.2.1, u2.blk hHeld.2.2.1, u2.blk hHeld.2.2.2.1, u2.blk hHeld.2.2.2.2⟩ (fun hHeld => ?_)
    clear hK K
    refine takeH (i := 12) (d := (some 23)) (v := .int .i64 cv) rfl rfl (by kernel_rfl) (by kernel_rfl) (by kernel_rfl) (fun _ _ _ h => h) (by rfl) ?hymin (by assumption) ?_
    case hymin => ((intro w hSw; (try dsimp only at hSw); go_simp); try with_reducible rfl)
    simp only [Act.put, List.setIfInBounds_toArray, List.set_cons_zero, List.set_cons_succ]
    refine takeH (i := 13) (d := (some 8)) (v := ?v39) rfl rfl (by kernel_rfl) (by kernel_rfl) (by kernel_rfl) (fun _ _ _ h => h) (by rfl) ?hy39 (by assumption) ?_
    case hy39 => ((intro w hSw; (try dsimp only at hSw); (try go_split_ands); go_simp); try with_reducible rfl)
    simp only [Act.put, List.setIfInBounds_toArray, List.set_cons_zero, List.set_cons_succ]
    refine wpAnyH_done (by kernel_rfl) ?_ _
    obtain ⟨k1, k2, k3, k4, k5⟩ := hHeld
    have o2 := o1.kept (up_grown u2 none) (by simp)
    have G2 : w.grownBy w2 (some m) := ((up_grown (Up.refl w).drew (some m)).trans g1).trans (up_grown u2 (some m))
    have hkey := keyOf_key (a := T) (b := p) ⟨by omega, by omega⟩ hp
    have hcb := S.can_bd (e := e) (j := j) he (by omega) (t + 1)
    have hel := plainElem_int (H := Nat) Try.underlying3 (a := cv) (D.in64.wf ⟨by have := HCV.out; omega, by have := HCV.out; omega⟩)
    clear u2 g1 o1 k1 k2 k3 hMn HFF hcb
    go_wp2_with (at_mapUpdate; refine wpList_mapUpdate_own _ rfl _ _ _ 86 rfl 130 3 lawKey Try.underlying86 _ m n1 _ rfl o2 (by unfold maxLen; omega) _ _ _ rfl rfl hkey _ [] hel ?_; intro w3 o3 g3)
    go_ret
    refine ⟨rfl, n1 + 1, _, G2.trans g3, o3, (h1.put ⟨by omega, by omega⟩ hp cv).cong fun a b => ?_, by omega⟩
    rw [← HT.out, ← HCV.out]
    exact S.knew_succ e j p t g a b

end Go.Proofs.Ytcadpdbadgejfaa

/- The contract of scale's newKnown. -/
namespace Go.Proofs.Ytcadpdbadgejfaa
open Go.RowKit

/-- what a rule lets each tick add, in each part: 0, 1 and 2 -/
def S.part (f s : Int) (p : Int) : Int := if p = 0 then s else if p = 2 then f else 0
def S.knows (f s j : Int) (a b : Int) : Int := if (b = 0 ∨ b = 1 ∨ b = 2) ∧ 1 ≤ a ∧ a ≤ 100 then S.can (S.part f s b) j a.toNat else 0
theorem S.knows_is (f s j : Int) (a b : Int) : S.knew f j 2 100 (S.knew 0 j 1 100 (S.knew s j 0 100 fun _ _ => 0)) a b = S.knows f s j a b := by
  unfold S.knew S.knows S.part
  by_cases h : 1 ≤ a ∧ a ≤ 100
  · by_cases h2 : b = 2
    · subst h2; simp [h]
    · by_cases h1 : b = 1
      · subst h1; simp [h]
      · by_cases h0 : b = 0
        · subst h0; simp [h]
        · simp [h0, h1, h2]
  · have : ¬ (1 ≤ a ∧ a ≤ ((100 : Nat) : Int)) := h
    simp [h]
/-- what is known of a rule's ticks, in memory -/
structure S.Know (w : World) (v : Value) (f s j : Int) : Prop where
  mk :: (is : ∃ m n M, v = .map (some m) ∧ S.Own w m n M ∧ S.MapIs M (S.knows f s j))
theorem S.Know.up {w w' : World} {v : Value} {f s j : Int} (h : S.Know w v f s j) (u : Up w w') : S.Know w' v f s j := by
  obtain ⟨m, n, M, rfl, ho, hM⟩ := h.is
  exact ⟨m, n, M, rfl, ho.kept (up_grown u none) (by simp), hM⟩

set_option maxRecDepth 100000 in
set_option maxHeartbeats 2000000 in
theorem newKnown_any {f s j dl dh : Int} (hr : S.ok f s j dl dh = true) (w : World) :
    Calls Try.prog 66 #[RV f s j dl dh] w fun e w' => ∃ v, e = .returned v ∧ Up w w' ∧ S.Know w' v f s j := by
  obtain ⟨⟨f1, f2⟩, ⟨s1, s2⟩, ⟨j1, j2⟩, hd⟩ := S.ok_iff.1 hr
  have hmm := @run_makeMap Try.prog
  have i0 : ∀ w, (Instr.index 127 DV (.int .i64 0)).run Try.prog w = .ok (.agg #[.int .i64 (-1), .func (.func 101) #[] #[]]) w := fun _ => by kernel_rfl
  have i1 : ∀ w, (Instr.index 127 DV (.int .i64 1)).run Try.prog w = .ok (.agg #[.int .i64 0, .func (.func 102) #[] #[]]) w := fun _ => by kernel_rfl
  have i2 : ∀ w, (Instr.index 127 DV (.int .i64 2)).run Try.prog w = .ok (.agg #[.int .i64 1, .func (.func 103) #[] #[]]) w := fun _ => by kernel_rfl
  clear hr hd
  go_enter Try.func66, Try.ntmps66
  go_wp2_with fail
  obtain ⟨W0, hW0⟩ : ∃ W0, ((w.alloc (.cells #[.int .i64 f, .int .i64 s, .int .i64 j, .int .i64 dl, .int .i64 dh] 79)).alloc (.map #[] 0)).alloc (.cells #[.map (some (w.heap.size + 1))] 86) = W0 := ⟨_, rfl⟩
  have U0 : Up w W0 := by rw [← hW0]; exact (((Up.refl w).alloc _).alloc _).alloc _
  have r0 : mblk W0 w.heap.size = some (.cells #[.int .i64 f, .int .i64 s, .int .i64 j, .int .i64 dl, .int .i64 dh] 79 (0, 0)) := by rw [← hW0]; exact blk_keep _ (blk_keep _ (blk_new _ _ _ rfl))
  have o0 : S.Own W0 (w.heap.size + 1) 0 (.map []) := by
    have := (World.ownsMap_made (w.alloc (.cells #[.int .i64 f, .int .i64 s, .int .i64 j, .int .i64 dl, .int .i64 dh] 79)) Try.prog 130 (plainElem (H := Nat) Try.prog 3)).alloc (.cells #[.map (some (w.heap.size + 1))] 86)
    rw [World.size_alloc, hW0] at this
    exact this
  have k0 : mblk W0 (w.heap.size + 1 + 1) = some (.cells #[.map (some (w.heap.size + 1))] 86 (0, 0)) := by rw [← hW0]; exact blk_new _ _ _ (by simp)
  rw [hW0]
  clear hW0
  refine (directions_any _).mono ?_
  rintro e w1 ⟨rfl, u1⟩
  have U1 := U0.trans u1
  have r1 := u1.blk r0
  have k1 := u1.blk k0
  have o1 := o0.kept (up_grown u1 none) (by simp)
  clear u1 U0 r0 k0 o0
  go_wp2_with fail
  go_loopw [9] (fun i wr => ∃ (n : Nat) (M : DataW Nat), ((i = .int .i64 0 ∧ n ≤ 0 ∧ S.MapIs M (fun _ _ => 0)) ∨ (i = .int .i64 1 ∧ n ≤ 100 ∧ S.MapIs M (S.knew s j 0 100 fun _ _ => 0)) ∨ (i = .int .i64 2 ∧ n ≤ 200 ∧ S.MapIs M (S.knew 0 j 1 100 (S.knew s j 0 100 fun _ _ => 0))) ∨ (i = .int .i64 3 ∧ n ≤ 300 ∧ S.MapIs M (S.knew f j 2 100 (S.knew 0 j 1 100 (S.knew s j 0 100 fun _ _ => 0))))) ∧
    mblk wr w.heap.size = some (.cells #[.int .i64 f, .int .i64 s, .int .i64 j, .int .i64 dl, .int .i64 dh] 79 (0, 0)) ∧ mblk wr (w.heap.size + 1 + 1) = some (.cells #[.map (some (w.heap.size + 1))] 86 (0, 0)) ∧ S.Own wr (w.heap.size + 1) n M ∧ Up w wr) (fun i _ => 3 - (intOf i).toNat)
  case atStart => exact ⟨0, .map [], .inl ⟨rfl, Nat.le_refl _, S.MapIs.empty⟩, r1, k1, o1, U1⟩
  case round =>
    clear r1 k1 o1 U1 hmm
    obtain ⟨n, M, hcase, r2, k2, hown, U2⟩ := hrel
    rcases hcase with ⟨rfl, hn, hM⟩ | ⟨rfl, hn, hM⟩ | ⟨rfl, hn, hM⟩ | ⟨rfl, hn, hM⟩
    · -- part 0
      have z1 := blk_lt r2
      have z2 := blk_lt k2
      have r3 := blk_keep (.cells #[.func (.func 88) #[] #[.pointer (some ⟨wr.heap.size + 1 + 1, 0, none⟩), .pointer (some ⟨w.heap.size, 0, none⟩), .pointer (some ⟨wr.heap.size + 1, 0, none⟩), .pointer (some ⟨w.heap.size + 1 + 1, 0, none⟩), .pointer (some ⟨wr.heap.size, 0, none⟩)]] 61) (blk_keep (.cells #[.int .i64 (-1), .func (.func 101) #[] #[]] 126) (blk_keep (.cells #[.int .i64 0] 3) r2))
      have k3 := blk_keep (.cells #[.func (.func 88) #[] #[.pointer (some ⟨wr.heap.size + 1 + 1, 0, none⟩), .pointer (some ⟨w.heap.size, 0, none⟩), .pointer (some ⟨wr.heap.size + 1, 0, none⟩), .pointer (some ⟨w.heap.size + 1 + 1, 0, none⟩), .pointer (some ⟨wr.heap.size, 0, none⟩)]] 61) (blk_keep (.cells #[.int .i64 (-1), .func (.func 101) #[] #[]] 126) (blk_keep (.cells #[.int .i64 0] 3) k2))
      have HC := Lib.hid (fun W (u : Up wr W) q1 q2 q3 q4 q5 => can_slowest (e := s) (sg := (-1)) (p := 0) (dl := dl) (dh := dh) (f := f) (s := s) (j := j) (bc := wr.heap.size + 1 + 1) (br := w.heap.size) (bd := wr.heap.size + 1) (bk := w.heap.size + 1 + 1) (bp := wr.heap.size) (m := w.heap.size + 1) j1 j2 s1 s2 ⟨by omega, by omega⟩ ⟨by omega, by omega, by omega, by omega, by omega⟩ (fun w => slowest_any f s j dl dh w) _ 100 (Nat.le_refl _) n M W (by omega) q1 q2 q3 q4 q5 (hown.kept (up_grown u none) (by simp)) hM)
      have V3 := ((Up.refl wr).alloc (.cells #[.int .i64 0] 3)).alloc (.cells #[.int .i64 (-1), .func (.func 101) #[] #[]] 126) |>.alloc (.cells #[.func (.func 88) #[] #[.pointer (some ⟨wr.heap.size + 1 + 1, 0, none⟩), .pointer (some ⟨w.heap.size, 0, none⟩), .pointer (some ⟨wr.heap.size + 1, 0, none⟩), .pointer (some ⟨w.heap.size + 1 + 1, 0, none⟩), .pointer (some ⟨wr.heap.size, 0, none⟩)]] 61)
      clear hM hown r2 k2
      go_wp2_with fail
      refine (HC.out _ V3 (blk_new _ _ _ (by simp)) r3 (blk_keep _ (blk_new _ _ _ (by simp))) k3 (blk_keep _ (blk_keep _ (blk_new _ _ _ rfl)))).mono ?_
      rintro x w4 ⟨rfl, n4, M4, g4, o4, h4, l4⟩
      have r4 := (g4.block _ (blk_lt r3) (by simp)).trans r3
      have k4 := (g4.block _ (blk_lt k3) (by simp)).trans k3
      have U4 := (U2.trans V3).grown g4 (fun q hq => by have := Option.some.inj hq; omega)
      clear r3 k3 g4 V3 HC U2
      go_wp2
      go_roundw
      case rel => exact ⟨n4, M4, .inr (.inl ⟨rfl, by omega, h4⟩), r4, k4, o4, U4⟩
      case measure => simp [intOf]
    · -- part 1
      have z1 := blk_lt r2
      have z2 := blk_lt k2
      have r3 := blk_keep (.cells #[.func (.func 88) #[] #[.pointer (some ⟨wr.heap.size + 1 + 1, 0, none⟩), .pointer (some ⟨w.heap.size, 0, none⟩), .pointer (some ⟨wr.heap.size + 1, 0, none⟩), .pointer (some ⟨w.heap.size + 1 + 1, 0, none⟩), .pointer (some ⟨wr.heap.size, 0, none⟩)]] 61) (blk_keep (.cells #[.int .i64 0, .func (.func 102) #[] #[]] 126) (blk_keep (.cells #[.int .i64 1] 3) r2))
      have k3 := blk_keep (.cells #[.func (.func 88) #[] #[.pointer (some ⟨wr.heap.size + 1 + 1, 0, none⟩), .pointer (some ⟨w.heap.size, 0, none⟩), .pointer (some ⟨wr.heap.size + 1, 0, none⟩), .pointer (some ⟨w.heap.size + 1 + 1, 0, none⟩), .pointer (some ⟨wr.heap.size, 0, none⟩)]] 61) (blk_keep (.cells #[.int .i64 0, .func (.func 102) #[] #[]] 126) (blk_keep (.cells #[.int .i64 1] 3) k2))
      have HC := Lib.hid (fun W (u : Up wr W) q1 q2 q3 q4 q5 => can_unsteered (e := 0) (sg := 0) (p := 1) (dl := dl) (dh := dh) (f := f) (s := s) (j := j) (bc := wr.heap.size + 1 + 1) (br := w.heap.size) (bd := wr.heap.size + 1) (bk := w.heap.size + 1 + 1) (bp := wr.heap.size) (m := w.heap.size + 1) j1 j2 (by omega) (by omega) ⟨by omega, by omega⟩ ⟨by omega, by omega, by omega, by omega, by omega⟩ (fun w => unsteered_any f s j dl dh w) _ 100 (Nat.le_refl _) n M W (by omega) q1 q2 q3 q4 q5 (hown.kept (up_grown u none) (by simp)) hM)
      have V3 := ((Up.refl wr).alloc (.cells #[.int .i64 1] 3)).alloc (.cells #[.int .i64 0, .func (.func 102) #[] #[]] 126) |>.alloc (.cells #[.func (.func 88) #[] #[.pointer (some ⟨wr.heap.size + 1 + 1, 0, none⟩), .pointer (some ⟨w.heap.size, 0, none⟩), .pointer (some ⟨wr.heap.size + 1, 0, none⟩), .pointer (some ⟨w.heap.size + 1 + 1, 0, none⟩), .pointer (some ⟨wr.heap.size, 0, none⟩)]] 61)
      clear hM hown r2 k2
      go_wp2_with fail
      refine (HC.out _ V3 (blk_new _ _ _ (by simp)) r3 (blk_keep _ (blk_new _ _ _ (by simp))) k3 (blk_keep _ (blk_keep _ (blk_new _ _ _ rfl)))).mono ?_
      rintro x w4 ⟨rfl, n4, M4, g4, o4, h4, l4⟩
      have r4 := (g4.block _ (blk_lt r3) (by simp)).trans r3
      have k4 := (g4.block _ (blk_lt k3) (by simp)).trans k3
      have U4 := (U2.trans V3).grown g4 (fun q hq => by have := Option.some.inj hq; omega)
      clear r3 k3 g4 V3 HC U2
      go_wp2
      go_roundw
      case rel => exact ⟨n4, M4, .inr (.inr (.inl ⟨rfl, by omega, h4⟩)), r4, k4, o4, U4⟩
      case measure => simp [intOf]
    · -- part 2
      have z1 := blk_lt r2
      have z2 := blk_lt k2
      have r3 := blk_keep (.cells #[.func (.func 88) #[] #[.pointer (some ⟨wr.heap.size + 1 + 1, 0, none⟩), .pointer (some ⟨w.heap.size, 0, none⟩), .pointer (some ⟨wr.heap.size + 1, 0, none⟩), .pointer (some ⟨w.heap.size + 1 + 1, 0, none⟩), .pointer (some ⟨wr.heap.size, 0, none⟩)]] 61) (blk_keep (.cells #[.int .i64 1, .func (.func 103) #[] #[]] 126) (blk_keep (.cells #[.int .i64 2] 3) r2))
      have k3 := blk_keep (.cells #[.func (.func 88) #[] #[.pointer (some ⟨wr.heap.size + 1 + 1, 0, none⟩), .pointer (some ⟨w.heap.size, 0, none⟩), .pointer (some ⟨wr.heap.size + 1, 0, none⟩), .pointer (some ⟨w.heap.size + 1 + 1, 0, none⟩), .pointer (some ⟨wr.heap.size, 0, none⟩)]] 61) (blk_keep (.cells #[.int .i64 1, .func (.func 103) #[] #[]] 126) (blk_keep (.cells #[.int .i64 2] 3) k2))
      have HC := Lib.hid (fun W (u : Up wr W) q1 q2 q3 q4 q5 => can_fastest (e := f) (sg := 1) (p := 2) (dl := dl) (dh := dh) (f := f) (s := s) (j := j) (bc := wr.heap.size + 1 + 1) (br := w.heap.size) (bd := wr.heap.size + 1) (bk := w.heap.size + 1 + 1) (bp := wr.heap.size) (m := w.heap.size + 1) j1 j2 f1 f2 ⟨by omega, by omega⟩ ⟨by omega, by omega, by omega, by omega, by omega⟩ (fun w => fastest_any f s j dl dh w) _ 100 (Nat.le_refl _) n M W (by omega) q1 q2 q3 q4 q5 (hown.kept (up_grown u none) (by simp)) hM)
      have V3 := ((Up.refl wr).alloc (.cells #[.int .i64 2] 3)).alloc (.cells #[.int .i64 1, .func (.func 103) #[] #[]] 126) |>.alloc (.cells #[.func (.func 88) #[] #[.pointer (some ⟨wr.heap.size + 1 + 1, 0, none⟩), .pointer (some ⟨w.heap.size, 0, none⟩), .pointer (some ⟨wr.heap.size + 1, 0, none⟩), .pointer (some ⟨w.heap.size + 1 + 1, 0, none⟩), .pointer (some ⟨wr.heap.size, 0, none⟩)]] 61)
      clear hM hown r2 k2
      go_wp2_with fail
      refine (HC.out _ V3 (blk_new _ _ _ (by simp)) r3 (blk_keep _ (blk_new _ _ _ (by simp))) k3 (blk_keep _ (blk_keep _ (blk_new _ _ _ rfl)))).mono ?_
      rintro x w4 ⟨rfl, n4, M4, g4, o4, h4, l4⟩
      have r4 := (g4.block _ (blk_lt r3) (by simp)).trans r3
      have k4 := (g4.block _ (blk_lt k3) (by simp)).trans k3
      have U4 := (U2.trans V3).grown g4 (fun q hq => by have := Option.some.inj hq; omega)
      clear r3 k3 g4 V3 HC U2
      go_wp2
      go_roundw
      case rel => exact ⟨n4, M4, .inr (.inr (.inr ⟨rfl, by omega, h4⟩)), r4, k4, o4, U4⟩
      case measure => simp [intOf]
    · have HM := Lib.hid (hM.cong (S.knows_is f s j))
      have HO := Lib.hid hown
      clear hM hown
      go_wp2
      go_ret
      exact ⟨_, rfl, U2, ⟨_, n, M, rfl, HO.out, HM.out⟩⟩

end Go.Proofs.Ytcadpdbadgejfaa
