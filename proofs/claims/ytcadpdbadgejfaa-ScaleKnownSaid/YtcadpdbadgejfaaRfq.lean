import Derived.Test.YtcadpdbadgejfaaRfp
/- The contract of the reference's Meets. -/
namespace Go.Proofs.Ytcadpdbadgejfaa
open Go.RowKit

/-- the farther an offset is on its side, the more ticks it needs -/
theorem S.Few.far1 {f s j x y : Int} {rx ry : Nat} (h1 : 0 < x) (h2 : x ≤ y) (hx : S.Few f s j x rx) (hy : S.Few f s j y ry) : rx ≤ ry := by
  have e1 : S.against x = 0 := if_pos h1
  have e2 : S.against y = 0 := if_pos (by omega)
  refine S.First.le hy hx fun k hk => ?_
  have a := of_decide_eq_true hk
  rw [e2] at a
  rw [e1]
  exact decide_eq_true (by omega)
theorem S.Few.far2 {f s j x y : Int} {rx ry : Nat} (h1 : x < 0) (h2 : y ≤ x) (hx : S.Few f s j x rx) (hy : S.Few f s j y ry) : rx ≤ ry := by
  have e1 : S.against x = 2 := by unfold S.against; rw [if_neg (by omega), if_pos h1]
  have e2 : S.against y = 2 := by unfold S.against; rw [if_neg (by omega), if_pos (by omega)]
  refine S.First.le hy hx fun k hk => ?_
  have a := of_decide_eq_true hk
  rw [e2] at a
  rw [e1]
  exact decide_eq_true (by omega)
theorem S.Few.between {f s j l h y : Int} {rl rh r : Nat} (h1 : l ≤ y) (h2 : y ≤ h) (hl : S.Few f s j l rl) (hh : S.Few f s j h rh) (hy : S.Few f s j y r) : r ≤ Max.max rl rh := by
  by_cases p : 0 < y
  · have := S.Few.far1 p h2 hy hh; omega
  · by_cases q : y < 0
    · have := S.Few.far2 q h1 hy hl; omega
    · obtain rfl : y = 0 := by omega
      have := hy.zero; omega
theorem S.Few.least {f s j l h y : Int} {rn r : Nat} (h1 : l ≤ y) (h2 : y ≤ h) (hn : S.Few f s j (S.near l h) rn) (hy : S.Few f s j y r) : rn ≤ r := by
  unfold S.near at hn
  by_cases p : 0 < l
  · rw [show Max.max l (min h 0) = l by omega] at hn
    exact S.Few.far1 p h1 hn hy
  · by_cases q : h < 0
    · rw [show Max.max l (min h 0) = h by omega] at hn
      exact S.Few.far2 q h2 hn hy
    · rw [show Max.max l (min h 0) = 0 by omega] at hn
      have := hn.zero; omega
theorem S.near_in {l h : Int} (h1 : l ≤ h) : l ≤ S.near l h ∧ S.near l h ≤ h := by unfold S.near; omega
/-- what has been found of the numbers from one on, up to another one -/
structure S.Mtd (f s j l z su be : Int) : Prop where
  fine : 0 ≤ su ∧ su ≤ 200 ∧ 0 ≤ be ∧ be ≤ 1000
  none : l = z → su = 0 ∧ be = 1000
  all : ∀ y, l ≤ y → y < z → ∀ r, S.Few f s j y r → (r : Int) ≤ su ∧ be ≤ r
  some : l < z → (∃ y r, l ≤ y ∧ y < z ∧ S.Few f s j y r ∧ (r : Int) = su) ∧ ∃ y r, l ≤ y ∧ y < z ∧ S.Few f s j y r ∧ (r : Int) = be
theorem S.Mtd.start (f s j l : Int) : S.Mtd f s j l l 0 1000 := ⟨⟨by omega, by omega, by omega, by omega⟩, fun _ => ⟨rfl, rfl⟩, fun y h1 h2 => by omega, fun h => by omega⟩
theorem S.Mtd.step {f s j l z su be : Int} {r : Nat} (h : S.Mtd f s j l z su be) (hz : l ≤ z) (hr : S.Few f s j z r) (h200 : r ≤ 200) : S.Mtd f s j l (z + 1) (max su r) (min be r) := by
  have a := h.fine
  refine ⟨by omega, fun e => by omega, fun y h1 h2 k hk => ?_, fun _ => ?_⟩
  · by_cases e : y = z
    · subst e
      have := S.First.one hr hk
      omega
    · have := h.all y h1 (by omega) k hk
      omega
  · by_cases e : l < z
    · obtain ⟨⟨y, k, y1, y2, y3, y4⟩, ⟨u, m, u1, u2, u3, u4⟩⟩ := h.some e
      constructor
      · by_cases q : su ≤ r
        · exact ⟨z, r, hz, by omega, hr, by omega⟩
        · exact ⟨y, k, y1, by omega, y3, by omega⟩
      · by_cases q : r ≤ be
        · exact ⟨z, r, hz, by omega, hr, by omega⟩
        · exact ⟨u, m, u1, by omega, u3, by omega⟩
    · obtain rfl : l = z := by omega
      obtain ⟨rfl, rfl⟩ := h.none rfl
      exact ⟨⟨l, r, by omega, by omega, hr, by omega⟩, ⟨l, r, by omega, by omega, hr, by omega⟩⟩
/-- at the end: what the program answers -/
theorem S.Mtd.done {f s j l h su be : Int} {rl rh rn : Nat} (hM : S.Mtd f s j l (h + 1) su be) (hlh : l ≤ h) (hl : S.Few f s j l rl) (hh : S.Few f s j h rh) (hn : S.Few f s j (S.near l h) rn) : S.meetsV rl rh rn = .tuple #[.int .i64 su, .int .i64 be, .int .i64 0] := by
  obtain ⟨⟨y, k, y1, y2, y3, y4⟩, ⟨u, m, u1, u2, u3, u4⟩⟩ := hM.some (by omega)
  have a1 := hM.all l (by omega) (by omega) rl hl
  have a2 := hM.all h (by omega) (by omega) rh hh
  have nn := S.near_in hlh
  have a3 := hM.all (S.near l h) nn.1 (by omega) rn hn
  have b1 := S.Few.between y1 (by omega) hl hh y3
  have b2 := S.Few.least u1 (by omega) hn u3
  have c := hM.fine
  have e1 : ((max rl rh : Nat) : Int) = su := by omega
  have e2 : (rn : Int) = be := by omega
  unfold S.meetsV
  rw [if_pos ⟨by omega, by omega⟩, e1, e2]
theorem S.meets_none {f s j l h y : Int} {rl rh rn r : Nat} (h1 : l ≤ y) (h2 : y ≤ h) (hl : S.Few f s j l rl) (hh : S.Few f s j h rh) (hy : S.Few f s j y r) (hr : ¬ r ≤ 200) : S.meetsV rl rh rn = .tuple #[.int .i64 0, .int .i64 0, .int .i64 4] := by
  have := S.Few.between h1 h2 hl hh hy
  unfold S.meetsV
  rw [if_neg (by omega)]

section
variable {f s j dl dh ticks : Int} {a a' : Option Addr} {n c n' c' : Nat} {xs : List Int} {ls : List (Int × Int × Int)}
set_option maxRecDepth 100000 in
set_option maxHeartbeats 4000000 in
theorem r_Meets_any {w : World} (I : Ints w (.slice a n c) xs) (I' : Lks w (.slice a' n' c') ls) : Calls Try.prog 36 #[BV f s j dl dh ticks (.slice a n c) (.slice a' n' c')] w fun e w' => ∃ l h r, S.Told f s j dl dh ticks xs ls ticks l h r ∧ Up w w' ∧ ((r ≠ 0 ∧ e = .returned (.tuple #[.int .i64 0, .int .i64 0, .int .i64 r])) ∨ (r = 0 ∧ ∃ rl rh rn, S.Few f s j l rl ∧ S.Few f s j h rh ∧ S.Few f s j (S.near l h) rn ∧ e = .returned (S.meetsV rl rh rn))) := by
  have U0 := (Up.refl w).alloc (.cells (BC f s j dl dh ticks (.slice a n c) (.slice a' n' c')) 44)
  have k1 := blk_new w (.cells (BC f s j dl dh ticks (.slice a n c) (.slice a' n' c')) 44) _ rfl
  have HC := Lib.hid (r_Check_any (f := f) (s := s) (j := j) (dl := dl) (dh := dh) (ticks := ticks) (I.up U0) (I'.up U0))
  have HE := Lib.hid (fun w' (u : Up w w') => r_Error_any (f := f) (s := s) (j := j) (dl := dl) (dh := dh) (ticks := ticks) (I.up u) (I'.up u) ticks)
  clear I I'
  cases hb : S.bookOk f s j dl dh ticks xs ls with
  | false =>
    rw [hb, if_neg (by decide)] at HC
    have HT := Lib.hid (show S.Told f s j dl dh ticks xs ls ticks 0 0 40 from ⟨fun _ => ⟨rfl, rfl, rfl⟩, fun h => (by rw [hb] at h; cases h), fun h => (by rw [hb] at h; cases h)⟩)
    clear hb HE
    go_enter Try.func36, Try.ntmps36
    go_wp2_with fail
    refine HC.out.mono ?_
    rintro e w1 ⟨rfl, u1⟩
    go_wp2
    exact bodyPost_ret (v := .tuple #[.int .i64 0, .int .i64 0, .int .i64 40]) (by simp [results, Try.results36, go_sem]) rfl ⟨0, 0, 40, HT.out, U0.trans u1, .inl ⟨by decide, rfl⟩⟩
  | true =>
    rw [hb, if_pos rfl] at HC
    obtain ⟨hok, hti, _⟩ := S.bookOk_iff.1 hb
    obtain ⟨⟨f1, _⟩, ⟨s1, _⟩, ⟨j1, _⟩, _⟩ := S.ok_iff.1 hok
    have HR := Lib.hid (fun w => r_reaches_any hok w)
    have HF := Lib.hid (fun off (o1 : -20000 ≤ off) (o2 : off ≤ 20000) r (hrk : S.Few f s j off r) g cap w hc => r_fewest_any f1 s1 j1 off o1 o2 hrk (g := g) (cap := cap) (w := w) hc)
    clear hok f1 s1 j1 hb hti
    go_enter Try.func36, Try.ntmps36
    go_wp2_with fail
    refine HC.out.mono ?_
    rintro e w1 ⟨rfl, u1⟩
    replace k1 := u1.blk k1
    replace U0 := U0.trans u1
    clear u1 HC
    go_wp2_with fail
    refine (HE.out _ U0).mono ?_
    rintro e w2 ⟨l, h, r, rfl, hT, u2⟩
    obtain ⟨b1, b2, b3⟩ := hT.fine
    have m6 := blk_new w2 (.cells #[.int .i64 l, .int .i64 h] 23) _ rfl
    have l1 := blk_lt (u2.blk k1)
    replace k1 := blk_keep (.cells #[.int .i64 l, .int .i64 h] 23) (u2.blk k1)
    replace U0 := (U0.trans u2).alloc (.cells #[.int .i64 l, .int .i64 h] 23)
    clear u2 HE
    obtain ⟨p6, hp6⟩ : ∃ p, w2.heap.size = p := ⟨_, rfl⟩
    obtain ⟨W3, hW3⟩ : ∃ W, w2.alloc (.cells #[.int .i64 l, .int .i64 h] 23) = W := ⟨_, rfl⟩
    rw [hp6] at m6 l1
    rw [hW3] at m6 k1 U0
    by_cases hr : r = 0
    · subst hr
      have HT := Lib.hid hT
      clear hT
      obtain ⟨rl, hl⟩ := S.Few.ex f s j l
      obtain ⟨rh, hh⟩ := S.Few.ex f s j h
      obtain ⟨rn, hn⟩ := S.Few.ex f s j (S.near l h)
      have HQ := Lib.hid (fun w' (u : Up w w') V (hV : S.meetsV rl rh rn = V) => show ∃ l h r, S.Told f s j dl dh ticks xs ls ticks l h r ∧ Up w w' ∧ ((r ≠ 0 ∧ Ending.returned V = .returned (.tuple #[.int .i64 0, .int .i64 0, .int .i64 r])) ∨ (r = 0 ∧ ∃ rl rh rn, S.Few f s j l rl ∧ S.Few f s j h rh ∧ S.Few f s j (S.near l h) rn ∧ Ending.returned V = .returned (S.meetsV rl rh rn))) from ⟨l, h, 0, HT.out, u, .inr ⟨rfl, rl, rh, rn, hl, hh, hn, by rw [hV]⟩⟩)
      have HNone := Lib.hid (fun y r (q1 : l ≤ y) (q2 : y ≤ h) (hy : S.Few f s j y r) (hr : ¬ r ≤ 200) => S.meets_none (rn := rn) q1 q2 hl hh hy hr)
      have HDone := Lib.hid (fun su be (hM : S.Mtd f s j l (h + 1) su be) => hM.done b2 hl hh hn)
      clear hl hh hn HT
      go_wp2_with fail
      clear hp6 hW3
      refine (HR.out _).mono ?_
      rintro e w4 ⟨g, cap, rfl, u4, hc⟩
      have HCc := Lib.hid hc
      replace m6 := u4.blk m6
      replace U0 := U0.trans u4
      clear hc u4 k1 l1 HR
      go_wp2_with fail
      go_loopw [9, 10, 11] (fun sv bv zv wr => ∃ su be z : Int, sv = .int .i64 su ∧ bv = .int .i64 be ∧ zv = .int .i64 z ∧ l ≤ z ∧ z ≤ h + 1 ∧ Hid (S.Mtd f s j l z su be) ∧ Up w4 wr) (fun _ _ zv _ => (h + 1 - intOf zv).toNat)
      case atStart => exact ⟨0, 1000, l, rfl, rfl, rfl, by omega, by omega, S.Mtd.start f s j l, Up.refl _⟩
      case round =>
        obtain ⟨su, be, z, rfl, rfl, rfl, z1, z2, hM, V⟩ := hrel
        replace m6 := V.blk m6
        by_cases hlt : z ≤ h
        · obtain ⟨r, hz⟩ := S.Few.ex f s j z
          have HFz := Lib.hid (HF.out z (by omega) (by omega) r hz g cap wr (fun k hk => ⟨V.cell2 (HCc.out k hk).1, V.cell2 (HCc.out k hk).2⟩))
          have hfine := hM.out.fine
          by_cases h2 : r ≤ 200
          · rw [if_pos h2] at HFz
            have hn : ¬ (r : Int) < 0 := by omega
            obtain ⟨su', hsu⟩ : ∃ x, max su (r : Int) = x := ⟨_, rfl⟩
            obtain ⟨be', hbe⟩ : ∃ x, min be (r : Int) = x := ⟨_, rfl⟩
            have HM' := Lib.hid (hM.out.step z1 hz h2)
            rw [hsu, hbe] at HM'
            have hMx := max_run hsu
            have hMn := min_run hbe
            have wz : IntKind.i64.wrap (z + 1) = z + 1 := IntWalk.i64_in _ (by omega)
            clear hsu hbe hM hz HF HNone HDone HQ
            go_wp2_with fail
            refine HFz.out.mono ?_
            rintro e w5 ⟨rfl, u5⟩
            go_wp2_with fail
            go_roundw
            case rel => exact ⟨su', be', z + 1, rfl, rfl, by go_num, by omega, by omega, HM'.out, V.trans u5⟩
            case measure => simp [intOf]; omega
          · rw [if_neg h2] at HFz
            have HV := Lib.hid (HNone.out z r z1 hlt hz h2)
            clear hz hM HF HNone HDone
            go_wp2_with fail
            refine HFz.out.mono ?_
            rintro e w5 ⟨rfl, u5⟩
            go_wp2
            exact bodyPost_ret (v := .tuple #[.int .i64 0, .int .i64 0, .int .i64 4]) (by simp [results, Try.results36, go_sem]) rfl (HQ.out _ ((U0.trans V).trans u5) _ HV.out)
        · obtain rfl : z = h + 1 := by omega
          have HV := Lib.hid (HDone.out su be hM.out)
          have hlt' : ¬ h + 1 ≤ h := by omega
          clear hM HF HNone HDone
          go_wp2
          exact bodyPost_ret (v := .tuple #[.int .i64 su, .int .i64 be, .int .i64 0]) (by simp [results, Try.results36, go_sem]) rfl (by
            obtain ⟨l1, h1, r1, t1, t2, t3 | ⟨t4, x1, x2, x3, t5, t6, t7, t8⟩⟩ := HQ.out _ (U0.trans V) _ HV.out
            · exact ⟨l1, h1, r1, t1, t2, .inl t3⟩
            · exact ⟨l1, h1, r1, t1, t2, .inr ⟨t4, x1, t5, x2, t6, x3, t7, t8⟩⟩)
    · have hrb : (r != 0) = true := by simp [hr]
      have HT := Lib.hid hT
      clear hT HR HF
      go_wp2
      exact bodyPost_ret (v := .tuple #[.int .i64 0, .int .i64 0, .int .i64 r]) (by simp [results, Try.results36, go_sem]) rfl ⟨l, h, r, HT.out, U0, .inl ⟨hr, rfl⟩⟩
end

end Go.Proofs.Ytcadpdbadgejfaa
