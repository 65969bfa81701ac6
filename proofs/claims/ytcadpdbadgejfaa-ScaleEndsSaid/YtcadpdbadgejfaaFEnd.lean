import Derived.Test.YtcadpdbadgejfaaApp
/- The law ScaleEnds. -/
namespace Go.Proofs.Ytcadpdbadgejfaa
open Go.RowKit

section
variable {f s j dl dh ticks : Int} {a a' : Option Addr} {n c n' c' : Nat} {xs : List Int} {ls : List (Int × Int × Int)}
set_option maxRecDepth 100000 in
set_option maxHeartbeats 4000000 in
set_option linter.unusedSimpArgs false in
theorem scaleEnds_any (z : Int) {w : World} (I : Ints w (.slice a n c) xs) (I' : Lks w (.slice a' n' c') ls) : Calls Try.prog 12 #[BV f s j dl dh ticks (.slice a n c) (.slice a' n' c'), .int .i64 z] w fun e w' => e = .returned (.bool true) ∧ Up w w' := by
  have U0 := (Up.refl w).alloc (.cells (BC f s j dl dh ticks (.slice a n c) (.slice a' n' c')) 44)
  have k2 := blk_new w (.cells (BC f s j dl dh ticks (.slice a n c) (.slice a' n' c')) 44) _ rfl
  have HW := Lib.hid (fun w => l_works_any w)
  have HS := Lib.hid (fun w' (u : Up w w') => l_sound_any (f := f) (s := s) (j := j) (dl := dl) (dh := dh) (ticks := ticks) (I.up u) (I'.up u))
  cases hb : S.bookOk f s j dl dh ticks xs ls with
  | false =>
    rw [hb] at HS
    clear hb I I'
    go_enter Try.func12, Try.ntmps12
    go_wp2_with fail
    refine (HS.out _ U0).mono ?_
    rintro e w1 ⟨rfl, u1⟩
    replace k2 := u1.blk k2
    replace U0 := U0.trans u1
    clear u1 HS
    go_wp2_with fail
    refine (HW.out _).mono ?_
    rintro e w2 ⟨rfl, u2⟩
    go_wp2
    go_ret
    exact ⟨rfl, U0.trans u2⟩
  | true =>
    rw [hb] at HS
    obtain ⟨g1, ⟨g2, g3⟩, _, g6, g7⟩ := S.bookOk_iff.1 hb
    have hln' : n' = ls.length := I'.len.1
    by_cases hl10 : ls.length = 10
    · obtain rfl : n' = 10 := by omega
      clear hb I I' g1 g6 g7 hl10 hln'
      go_enter Try.func12, Try.ntmps12
      go_wp2_with fail
      refine (HS.out _ U0).mono ?_
      rintro e w1 ⟨rfl, u1⟩
      replace k2 := u1.blk k2
      replace U0 := U0.trans u1
      clear u1 HS
      go_wp2_with fail
      refine (HW.out _).mono ?_
      rintro e w2 ⟨rfl, u2⟩
      go_wp2
      go_ret
      exact ⟨rfl, U0.trans u2⟩
    · subst hln'
      have h10 : ((ls.length : Int) == 10) = false := by simpa using (by omega : ¬ (ls.length : Int) = 10)
      have h10' : ¬ (ls.length : Int) = 10 := by omega
      have hl9 : ls.length ≤ 9 := by omega
      have HR := Lib.hid (fun w => B_Rest_any z (ticks + 1) w (by omega) (by omega))
      have t1 := Int.emod_nonneg z (b := ticks + 1) (by omega)
      have t2 := Int.emod_lt_of_pos z (b := ticks + 1) (by omega)
      generalize z % (ticks + 1) = t at *
      have wt : IntKind.i64.wrap (ticks + 1) = ticks + 1 := IntWalk.i64_in _ (by omega)
      have HE := Lib.hid (fun w' (u : Up w w') => Error_any (f := f) (s := s) (j := j) (dl := dl) (dh := dh) (ticks := ticks) (I.up u) (I'.up u) t)
      have HI := Lib.hid (fun w' (u : Up w w') => I.up u)
      have HI' := Lib.hid (fun w' (u : Up w w') => I'.up u)
      have HB2 := Lib.hid (fun e (h : -20000 ≤ e ∧ e ≤ 20000) => show S.bookOk f s j dl dh ticks xs (ls ++ [(t, e, e)]) = true from S.book_looks hb (by simp; omega) (fun y hy => by
        rcases List.mem_append.1 hy with q | q
        · exact List.all_eq_true.1 g7 _ q
        · rw [List.mem_singleton] at q
          subst q
          show (inB t 0 ticks && S.spanOk e e 20000) = true
          rw [inB_yes t1 (by omega), Bool.true_and]
          exact S.spanOk_iff.2 (by omega)))
      clear g1 g6 g7 I I'
      go_enter Try.func12, Try.ntmps12
      go_wp2_with fail
      refine (HS.out _ U0).mono ?_
      rintro e w1 ⟨rfl, u1⟩
      replace k2 := u1.blk k2
      replace U0 := U0.trans u1
      clear u1 HS
      go_wp2_with fail
      refine (HR.out _).mono ?_
      rintro e w2 ⟨rfl, rfl⟩
      clear HR wt
      go_wp2_with fail
      refine (HE.out _ U0).mono ?_
      rintro e w2 ⟨l, h, r, rfl, T1, u2⟩
      have m6 := blk_new w2 (.cells #[.int .i64 l, .int .i64 h] 23) _ rfl
      have l2 := blk_lt (u2.blk k2)
      replace k2 := blk_keep (.cells #[.int .i64 l, .int .i64 h] 23) (u2.blk k2)
      replace U0 := (U0.trans u2).alloc (.cells #[.int .i64 l, .int .i64 h] 23)
      clear u2 HE
      rcases T1.yes hb ⟨t1, by omega⟩ with ⟨rfl, rfl, rfl, _⟩ | ⟨rfl, _⟩
      · clear T1 HB2 HI HI'
        go_wp2_with fail
        refine (HW.out _).mono ?_
        rintro e w4 ⟨rfl, u4⟩
        go_wp2
        go_ret
        exact ⟨rfl, U0.trans u4⟩
      · obtain ⟨b1, b2, b3⟩ := T1.fine
        obtain ⟨p6, hp6⟩ : ∃ p, w2.heap.size = p := ⟨_, rfl⟩
        obtain ⟨W3, hW3⟩ : ∃ W, w2.alloc (.cells #[.int .i64 l, .int .i64 h] 23) = W := ⟨_, rfl⟩
        rw [hp6] at m6 l2
        rw [hW3] at m6 k2 U0
        have HT1 := Lib.hid T1
        have HB1 := Lib.hid hb
        have wl : IntKind.i64.wrap (l - 1) = l - 1 := IntWalk.i64_in _ (by omega)
        have wh : IntKind.i64.wrap (h + 1) = h + 1 := IntWalk.i64_in _ (by omega)
        have kg := blk_new W3 (.cells #[.int .i64 l, .int .i64 h, .int .i64 (l - 1), .int .i64 (h + 1)] 3) _ rfl
        have lg := U0.size
        have k3 := blk_keep (.cells #[.int .i64 l, .int .i64 h, .int .i64 (l - 1), .int .i64 (h + 1)] 3) k2
        have V3 := U0.alloc (.cells #[.int .i64 l, .int .i64 h, .int .i64 (l - 1), .int .i64 (h + 1)] 3)
        have lk3 := blk_lt k2
        obtain ⟨ge, hge⟩ : ∃ p, W3.heap.size = p := ⟨_, rfl⟩
        obtain ⟨W4, hW4⟩ : ∃ W, W3.alloc (.cells #[.int .i64 l, .int .i64 h, .int .i64 (l - 1), .int .i64 (h + 1)] 3) = W := ⟨_, rfl⟩
        rw [hge] at kg lg lk3
        rw [hW4] at kg k3 V3
        clear T1 hb
        go_wp2_with fail
        clear hp6 hW3 hge hW4 wl wh m6 k2 U0 l2
        go_loopw [9] (fun i wr => ∃ k : Nat, k ≤ 4 ∧ i = .int .i64 k ∧ Up w wr ∧ mblk wr w.heap.size = some (.cells (BC f s j dl dh ticks (.slice a n c) (.slice a' ls.length c')) 44 (0, 0)) ∧ mblk wr ge = some (.cells #[.int .i64 l, .int .i64 h, .int .i64 (l - 1), .int .i64 (h + 1)] 3 (0, 0))) (fun i _ => 4 - (intOf i).toNat)
        case atStart => exact ⟨0, by omega, rfl, V3, k3, kg⟩
        case round =>
          clear V3 k3 kg
          obtain ⟨k, hk, rfl, V, k2, kg⟩ := hrel
          by_cases hlt : k < 4
          · have hlt' : (k : Int) < 4 := by omega
            obtain ⟨e, he, hE⟩ : ∃ e : Int, (#[.int .i64 l, .int .i64 h, .int .i64 (l - 1), .int .i64 (h + 1)] : Array Value)[k]? = some (.int .i64 e) ∧ ((k < 2 ∧ (e = l ∨ e = h)) ∨ (2 ≤ k ∧ (e < l ∨ h < e))) := by
              match k, hlt with
              | 0, _ => exact ⟨l, rfl, .inl ⟨by omega, .inl rfl⟩⟩
              | 1, _ => exact ⟨h, rfl, .inl ⟨by omega, .inr rfl⟩⟩
              | 2, _ => exact ⟨l - 1, rfl, .inr ⟨by omega, .inl (by omega)⟩⟩
              | 3, _ => exact ⟨h + 1, rfl, .inr ⟨by omega, .inr (by omega)⟩⟩
            have ce := (cellB kg k).trans he
            have HLe := Lib.hid (fun w => B_Lies_any e (-20000) 20000 w)
            cases hin : inB e (-20000) 20000 with
            | false =>
              rw [hin] at HLe
              have hk2 : ¬ (k : Int) < 2 := fun q => by
                have : inB e (-20000) 20000 = true := inB_iff.2 (by omega)
                rw [hin] at this
                cases this
              clear hE hin
              go_wp2_with fail
              refine (HLe.out _).mono ?_
              rintro e w5 ⟨rfl, rfl⟩
              go_wp2_with fail
              go_roundw
              case rel => exact ⟨k + 1, by omega, by go_num, V, k2, kg⟩
              case measure => (simp [intOf]; omega)
            | true =>
              rw [hin] at HLe
              have hin' := inB_iff.1 hin
              go_wp2_with fail
              refine (HLe.out _).mono ?_
              rintro e5 w5 ⟨rfl, rfl⟩
              clear HLe
              have HBk := Lib.hid (HB2.out e hin')
              have HAt := fun l' h' e' (B : S.Told f s j dl dh ticks xs (ls ++ [(t, e, e)]) t l' h' e') => S.Told.at HT1.out B HB1.out HBk.out ⟨t1, by omega⟩
              have HIw := Lib.hid (HI.out _ V)
              have HIw' := Lib.hid (HI'.out _ V)
              clear hin HB2
              have m10 := blk_new wr (.cells (BC f s j dl dh ticks (.slice a n c) (.slice a' ls.length c')) 44) _ rfl
              have l2 := blk_lt k2
              have lg2 := blk_lt kg
              have A1 := (Up.refl wr).alloc (.cells (BC f s j dl dh ticks (.slice a n c) (.slice a' ls.length c')) 44)
              have k3 := Up.blk A1 k2
              have kg3 := Up.blk A1 kg
              have ce3 := Up.cell2 A1 ce
              have V3 := V.trans A1
              obtain ⟨p, hp⟩ : ∃ p, wr.heap.size = p := ⟨_, rfl⟩
              obtain ⟨W5, hW5⟩ : ∃ W, wr.alloc (.cells (BC f s j dl dh ticks (.slice a n c) (.slice a' ls.length c')) 44) = W := ⟨_, rfl⟩
              rw [hp] at m10 l2 lg2
              rw [hW5] at m10 k3 kg3 ce3 V3 A1
              have i2 := k2
              clear V kg ce
              go_wp2_with fail
              try rw [hW5]
              try rw [hp]
              clear hW5 hp i2 k2
              have HTo := Lib.hid (fun w => B_To_any e e w)
              refine (wpIn_wide (n := 5)).1 ?_
              refine wpIn_nrm ?_
              refine regionG (fun w' => (Up W5 w' ∧ mblk w' ge = some (.cells #[.int .i64 l, .int .i64 h, .int .i64 (l - 1), .int .i64 (h + 1)] 3 (0, 0))) ∧ mblk w' w.heap.size = some (.cells (BC f s j dl dh ticks (.slice a n c) (.slice a' ls.length c')) 44 (0, 0)) ∧ mblk w' p = some (.cells (BC f s j dl dh ticks (.slice a n c) (.slice a' ls.length c')) 44 (0, 0)) ∧ w'.cell? ⟨ge, k, none⟩ = some (.int .i64 e)) 18 (by kernel_rfl) ⟨⟨(Up.refl _).drew, by rw [blk_drew]; exact kg3⟩, by rw [blk_drew]; exact k3, by rw [blk_drew]; exact m10, ce3⟩ (fun hHeld hCl => ?_)
              refine takeG (i := 1) (d := (some 71)) (v := ?v1) rfl rfl (by kernel_rfl) (by kernel_rfl) (by decide) hCl (by kernel_rfl) (by kernel_rfl) (by kernel_rfl) (fun _ _ _ h => h) (by rfl) ?hy1 (fun _ _ _ => trivial) (by assumption) (fun hCl' => ?_)
              case hy1 => ((intro w hSw; (try dsimp only at hSw); (try go_split_ands); go_simp); try with_reducible rfl)
              simp only [Act.put, List.setIfInBounds_toArray, List.set_cons_zero, List.set_cons_succ]
              replace hCl := hCl'; clear hCl'
              refine takeG (i := 4) (d := (some 74)) (v := ?v2) rfl rfl (by kernel_rfl) (by kernel_rfl) (by decide) hCl (by kernel_rfl) (by kernel_rfl) (by kernel_rfl) (fun _ _ _ h => h) (by rfl) ?hy2 (fun _ _ _ => trivial) (by assumption) (fun hCl' => ?_)
              case hy2 => ((intro w hSw; (try dsimp only at hSw); (try go_split_ands); go_simp); try with_reducible rfl)
              simp only [Act.put, List.setIfInBounds_toArray, List.set_cons_zero, List.set_cons_succ]
              replace hCl := hCl'; clear hCl'
              refine takeG (i := 5) (d := (some 75)) (v := ?v3) rfl rfl (by kernel_rfl) (by kernel_rfl) (by decide) hCl (by kernel_rfl) (by kernel_rfl) (by kernel_rfl) (fun _ _ _ h => h) (by rfl) ?hy3 (fun _ _ _ => trivial) (by assumption) (fun hCl' => ?_)
              case hy3 => ((intro w hSw; (try dsimp only at hSw); (try go_split_ands); go_simp); try with_reducible rfl)
              simp only [Act.put, List.setIfInBounds_toArray, List.set_cons_zero, List.set_cons_succ]
              replace hCl := hCl'; clear hCl'
              refine takeG (i := 6) (d := (some 76)) (v := ?v4) rfl rfl (by kernel_rfl) (by kernel_rfl) (by decide) hCl (by kernel_rfl) (by kernel_rfl) (by kernel_rfl) (fun _ _ _ h => h) (by rfl) ?hy4 (fun _ _ _ => trivial) (by assumption) (fun hCl' => ?_)
              case hy4 => ((intro w hSw; (try dsimp only at hSw); (try go_split_ands); go_simp); try with_reducible rfl)
              simp only [Act.put, List.setIfInBounds_toArray, List.set_cons_zero, List.set_cons_succ]
              replace hCl := hCl'; clear hCl'
              refine takeG (i := 9) (d := (some 79)) (v := ?v5) rfl rfl (by kernel_rfl) (by kernel_rfl) (by decide) hCl (by kernel_rfl) (by kernel_rfl) (by kernel_rfl) (fun _ _ _ h => h) (by rfl) ?hy5 (fun _ _ _ => trivial) (by assumption) (fun hCl' => ?_)
              case hy5 => ((intro w hSw; (try dsimp only at hSw); (try go_split_ands); go_simp); try with_reducible rfl)
              simp only [Act.put, List.setIfInBounds_toArray, List.set_cons_zero, List.set_cons_succ]
              replace hCl := hCl'; clear hCl'
              refine takeG (i := 10) (d := (some 80)) (v := ?v6) rfl rfl (by kernel_rfl) (by kernel_rfl) (by decide) hCl (by kernel_rfl) (by kernel_rfl) (by kernel_rfl) (fun _ _ _ h => h) (by rfl) ?hy6 (fun _ _ _ => trivial) (by assumption) (fun hCl' => ?_)
              case hy6 => ((intro w hSw; (try dsimp only at hSw); (try go_split_ands); go_simp); try with_reducible rfl)
              simp only [Act.put, List.setIfInBounds_toArray, List.set_cons_zero, List.set_cons_succ]
              replace hCl := hCl'; clear hCl'
              refine takeG (i := 2) (d := (some 72)) (v := ?v7) rfl rfl (by kernel_rfl) (by kernel_rfl) (by decide) hCl (by kernel_rfl) (by kernel_rfl) (by kernel_rfl) (fun _ _ _ h => h) (by rfl) ?hy7 (fun _ _ _ => trivial) (by assumption) (fun hCl' => ?_)
              case hy7 => ((intro w hSw; (try dsimp only at hSw); (try go_split_ands); go_simp); try with_reducible rfl)
              simp only [Act.put, List.setIfInBounds_toArray, List.set_cons_zero, List.set_cons_succ]
              replace hCl := hCl'; clear hCl'
              refine takeG (i := 7) (d := (some 77)) (v := ?v8) rfl rfl (by kernel_rfl) (by kernel_rfl) (by decide) hCl (by kernel_rfl) (by kernel_rfl) (by kernel_rfl) (fun _ _ _ h => h) (by rfl) ?hy8 (fun _ _ _ => trivial) (by assumption) (fun hCl' => ?_)
              case hy8 => ((intro w hSw; (try dsimp only at hSw); (try go_split_ands); go_simp); try with_reducible rfl)
              simp only [Act.put, List.setIfInBounds_toArray, List.set_cons_zero, List.set_cons_succ]
              replace hCl := hCl'; clear hCl'
              refine takeG (i := 11) (d := (some 81)) (v := ?v9) rfl rfl (by kernel_rfl) (by kernel_rfl) (by decide) hCl (by kernel_rfl) (by kernel_rfl) (by kernel_rfl) (fun _ _ _ h => h) (by rfl) ?hy9 (fun _ _ _ => trivial) (by assumption) (fun hCl' => ?_)
              case hy9 => ((intro w hSw; (try dsimp only at hSw); (try go_split_ands); go_simp); try with_reducible rfl)
              simp only [Act.put, List.setIfInBounds_toArray, List.set_cons_zero, List.set_cons_succ]
              replace hCl := hCl'; clear hCl'
              refine takeG (i := 8) (d := (some 78)) (v := ?v10) rfl rfl (by kernel_rfl) (by kernel_rfl) (by decide) hCl (by kernel_rfl) (by kernel_rfl) (by kernel_rfl) (fun _ _ _ h => h) (by rfl) ?hy10 (fun _ _ _ => trivial) (by assumption) (fun hCl' => ?_)
              case hy10 => ((intro w hSw; (try dsimp only at hSw); (try go_split_ands); go_simp); try with_reducible rfl)
              simp only [Act.put, List.setIfInBounds_toArray, List.set_cons_zero, List.set_cons_succ]
              replace hCl := hCl'; clear hCl'
              refine takeG (i := 12) (d := (some 82)) (v := ?v11) rfl rfl (by kernel_rfl) (by kernel_rfl) (by decide) hCl (by kernel_rfl) (by kernel_rfl) (by kernel_rfl) (fun _ _ _ h => h) (by rfl) ?hy11 (fun _ _ _ => trivial) (by assumption) (fun hCl' => ?_)
              case hy11 => ((intro w hSw; (try dsimp only at hSw); (try go_split_ands); go_simp); try with_reducible rfl)
              simp only [Act.put, List.setIfInBounds_toArray, List.set_cons_zero, List.set_cons_succ]
              replace hCl := hCl'; clear hCl'
              refine nextG (i := 0) (by kernel_rfl) rfl (by rfl) hCl (fun K hK => ?_)
              go_simp
              have hSz : Up W5 (W5.alloc (.cells #[] 71)).drew := Up.drew (Up.alloc (Up.refl W5) _)
              have R0 := row_up (World.ownsRow_lit (base := W5.heap.size) (e := 71) (size := 3) W5 #[] 0 (Nat.le_refl _) (by unfold maxLen; omega) rfl) (Up.refl _).drew
              have lp5 := blk_lt m10
              have lg5 := blk_lt kg3
              have lk5 := blk_lt k3
              clear hHeld
              obtain ⟨q5, hq5⟩ : ∃ q, W5.heap.size = q := ⟨_, rfl⟩
              obtain ⟨W6, hW6⟩ : ∃ W, (W5.alloc (.cells #[] 71)).drew = W := ⟨_, rfl⟩
              rw [hW6] at hSz R0
              rw [hq5] at R0
              try rw [hW6]
              try rw [hq5]
              refine hK.out _ _ ⟨⟨hSz, Up.blk hSz kg3⟩, Up.blk hSz k3, Up.blk hSz m10, Up.cell2 hSz ce3⟩ (fun _ hCl => ?_)
              clear hK K hW6
              try simp only [Act.put, List.setIfInBounds_toArray, List.set_cons_zero, List.set_cons_succ]
              refine nextG (i := 3) (by kernel_rfl) rfl (by rfl) hCl (fun K hK => ?_)
              refine opIn_append_lks (.tmp 70) (.tmp 72) rfl (HI'.out _ (V3.trans hSz)) rfl q5 _ 0 [] rfl R0 (by omega) (by omega) (by have := Up.size hSz; omega) ?_
              intro v1 w7 hown7 hgrow7
              rw [Nat.zero_add, List.nil_append] at hown7
              have A7 := Up.grown hSz hgrow7 (fun k e => by have := row_base R0 k e; omega)
              refine hK.out _ _ ⟨⟨A7, Up.blk A7 kg3⟩, Up.blk A7 k3, Up.blk A7 m10, Up.cell2 A7 ce3⟩ (fun _ hCl => ?_)
              clear hK K hSz R0 hgrow7
              try simp only [Act.put, List.setIfInBounds_toArray, List.set_cons_zero, List.set_cons_succ]
              refine nextG (i := 13) (by kernel_rfl) rfl (by rfl) hCl (fun K hK => ?_)
              go_simp
              refine ⟨trivial, (callsIn_wide.2 (HTo.out _)).mono ?_⟩
              rintro e8 w8 ⟨rfl, u8⟩
              have A8 := Up.trans A7 u8
              have hown8 := row_up hown7 u8
              refine hK.out _ _ ⟨⟨A8, Up.blk A8 kg3⟩, Up.blk A8 k3, Up.blk A8 m10, Up.cell2 A8 ce3⟩ (fun hHeld hCl => ?_)
              clear hK K u8 A7 hown7
              refine takeG (i := 14) (d := (some 84)) (v := ?v14) rfl rfl (by kernel_rfl) (by kernel_rfl) (by decide) hCl (by kernel_rfl) (by kernel_rfl) (by kernel_rfl) (fun _ _ _ h => h) (by rfl) ?hy14 (fun _ _ _ => trivial) (by assumption) (fun hCl' => ?_)
              case hy14 => ((intro w hSw; (try dsimp only at hSw); (try go_split_ands); go_simp); try with_reducible rfl)
              simp only [Act.put, List.setIfInBounds_toArray, List.set_cons_zero, List.set_cons_succ]
              replace hCl := hCl'; clear hCl'
              refine nextG (i := 15) (by kernel_rfl) rfl (by rfl) hCl (fun K hK => ?_)
              go_simp
              have A9 := Up.alloc A8 (.cells #[.int .i64 t, .int .i64 e, .int .i64 e] 71)
              have hown9 := hown8.alloc (.cells #[.int .i64 t, .int .i64 e, .int .i64 e] 71)
              have pl := blk_new w8 (.cells #[.int .i64 t, .int .i64 e, .int .i64 e] 71) _ rfl
              obtain ⟨q8, hq8⟩ : ∃ q, w8.heap.size = q := ⟨_, rfl⟩
              obtain ⟨W9, hW9⟩ : ∃ W, w8.alloc (.cells #[.int .i64 t, .int .i64 e, .int .i64 e] 71) = W := ⟨_, rfl⟩
              rw [hW9] at A9 hown9 pl
              rw [hq8] at pl
              try rw [hW9]
              try rw [hq8]
              refine hK.out _ _ ⟨⟨A9, Up.blk A9 kg3⟩, Up.blk A9 k3, Up.blk A9 m10, Up.cell2 A9 ce3⟩ (fun _ hCl => ?_)
              clear hK K hW9 hq8 A8 hown8 hHeld
              try simp only [Act.put, List.setIfInBounds_toArray, List.set_cons_zero, List.set_cons_succ]
              refine nextG (i := 16) (by kernel_rfl) rfl (by rfl) hCl (fun K hK => ?_)
              refine opIn_append_look (.tmp 73) (.tmp 85) rfl q8 pl rfl q5 _ ls.length ls rfl hown9 (by omega) (by have := Up.size A9; omega) ?_
              intro v2 w10 hown10 hgrow10
              have A10 := Up.grown A9 hgrow10 (fun k e => by have := row_base hown9 k e; omega)
              obtain ⟨g2, cap, cur, rfl, hg2, hbk, hcap, hcapm, hcs, htk⟩ := row_open hown10 (by omega)
              refine hK.out _ _ ⟨⟨A10, Up.blk A10 kg3⟩, Up.blk A10 k3, Up.blk A10 m10, Up.cell2 A10 ce3⟩ (fun _ hCl => ?_)
              clear hK K hgrow10 A9 hown9 pl hbk hcs htk
              try simp only [Act.put, List.setIfInBounds_toArray, List.set_cons_zero, List.set_cons_succ]
              refine takeG (i := 17) (d := (some 87)) (v := ?v16) rfl rfl (by kernel_rfl) (by kernel_rfl) (by decide) hCl (by kernel_rfl) (by kernel_rfl) (by kernel_rfl) (fun _ _ _ h => h) (by rfl) ?hy16 (fun _ _ _ => trivial) (by assumption) (fun hCl' => ?_)
              case hy16 => ((intro w hSw; (try dsimp only at hSw); (try go_split_ands); go_simp); try with_reducible rfl)
              simp only [Act.put, List.setIfInBounds_toArray, List.set_cons_zero, List.set_cons_succ]
              replace hCl := hCl'; clear hCl'
              have pb := Up.blk A10 m10
              have zf := frozB pb
              clear hCl
              refine lastG (i := 18) (by kernel_rfl) rfl (by rfl) (by decide) (fun K hK => ?_)
              go_simp
              have hpne : g2 ≠ p := by omega
              have V11 := Up.set (V3.trans A10) (p := ⟨p, 7, none⟩) (show w.heap.size ≤ p by have := V3.size; omega) (.slice (some ⟨g2, 0, none⟩) (ls.length + 1) cap)
              have k11 : mblk (w10.setCell ⟨p, 7, none⟩ (.slice (some ⟨g2, 0, none⟩) (ls.length + 1) cap)) w.heap.size = some (.cells (BC f s j dl dh ticks (.slice a n c) (.slice a' ls.length c')) 44 (0, 0)) := by rw [blk_set _ _ _ _ (by show w.heap.size ≠ p; omega)]; exact Up.blk A10 k3
              have g11 : mblk (w10.setCell ⟨p, 7, none⟩ (.slice (some ⟨g2, 0, none⟩) (ls.length + 1) cap)) ge = some (.cells #[.int .i64 l, .int .i64 h, .int .i64 (l - 1), .int .i64 (h + 1)] 3 (0, 0)) := by rw [blk_set _ _ _ _ (by show ge ≠ p; omega)]; exact Up.blk A10 kg3
              have p11 : mblk (w10.setCell ⟨p, 7, none⟩ (.slice (some ⟨g2, 0, none⟩) (ls.length + 1) cap)) p = some (.cells (BC f s j dl dh ticks (.slice a n c) (.slice (some ⟨g2, 0, none⟩) (ls.length + 1) cap)) 44 (0, 0)) := blk_put pb 7 _
              have LK := lks_of_row (ownsRow_setCell_other hown10 (a := ⟨p, 7, none⟩) (by show some g2 ≠ some p; simpa using hpne) (.slice (some ⟨g2, 0, none⟩) (ls.length + 1) cap)) (by omega)
              obtain ⟨W11, hW11⟩ : ∃ W, w10.setCell ⟨p, 7, none⟩ (.slice (some ⟨g2, 0, none⟩) (ls.length + 1) cap) = W := ⟨_, rfl⟩
              rw [hW11] at V11 k11 g11 p11 LK
              try rw [hW11]
              refine hK.out _ _ ?_
              clear hK K hW11 A10 hown10 pb zf k3 kg3 m10 ce3 V3 A1
              refine doneG (by kernel_rfl) ?_ _
              refine S.nrm_intro ?_
              have HX := Lib.hid (Error_any (f := f) (s := s) (j := j) (dl := dl) (dh := dh) (ticks := ticks) (HI.out _ V11) LK t)
              clear LK
              go_wp2_with fail
              refine HX.out.mono ?_
              rintro e12 w12 ⟨l', h', r', rfl, T2, u12⟩
              obtain ⟨q1, q2⟩ := HAt l' h' r' T2
              clear HX HAt HBk HT1 HB1 HI HI'
              have kb := u12.blk k11
              have gb := u12.blk g11
              have V12 := V11.trans u12
              clear u12 k11 g11 p11 V11
              rcases hE with ⟨hk2, hE⟩ | ⟨hk2, hE⟩
              · obtain ⟨rfl, q1b, q1c⟩ := q1 hE
                replace q1b := q1b.symm
                replace q1c := q1c.symm
                subst q1b
                subst q1c
                have hk2' : (k : Int) < 2 := by omega
                have dk1 : decide ((k : Int) < 2) = true := decide_eq_true hk2'
                have dk2 : decide (k < 2) = true := decide_eq_true hk2
                have dk3 : decide ((2 : Int) ≤ (k : Int)) = false := decide_eq_false (by omega)
                have dk4 : decide (2 ≤ k) = false := decide_eq_false (by omega)
                clear q1 q2 T2
                have A13 := Up.alloc (Up.refl w12) (.cells #[.int .i64 e, .int .i64 e] 23)
                have m13 := blk_new w12 (.cells #[.int .i64 e, .int .i64 e] 23) _ rfl
                have kb3 := Up.blk A13 kb
                have gb3 := Up.blk A13 gb
                have V13 := V12.trans A13
                have lb := blk_lt kb
                have lgb := blk_lt gb
                obtain ⟨p13, hp13⟩ : ∃ q, w12.heap.size = q := ⟨_, rfl⟩
                obtain ⟨W13, hW13⟩ : ∃ W, w12.alloc (.cells #[.int .i64 e, .int .i64 e] 23) = W := ⟨_, rfl⟩
                rw [hp13] at m13
                rw [hW13] at m13 kb3 gb3 V13
                clear kb gb V12 A13
                go_wp2_with fail
                try rw [hW13]
                try rw [hp13]
                clear hp13 hW13 lb lgb
                have ce13 := (cellB gb3 k).trans he
                refine wp_region_held_drew (S := fun w' => Up w w' ∧ mblk w' w.heap.size = some (.cells (BC f s j dl dh ticks (.slice a n c) (.slice a' ls.length c')) 44 (0, 0)) ∧ mblk w' ge = some (.cells #[.int .i64 l, .int .i64 h, .int .i64 (l - 1), .int .i64 (h + 1)] 3 (0, 0)) ∧ mblk w' p13 = some (.cells #[.int .i64 e, .int .i64 e] 23 (0, 0)) ∧ w'.cell? ⟨ge, k, none⟩ = some (.int .i64 e)) (by kernel_rfl) ⟨V13.drew, by rw [blk_drew]; exact kb3, by rw [blk_drew]; exact gb3, by rw [blk_drew]; exact m13, ce13⟩ (fun hHeld => ?_)
                clear V13 kb3 gb3 m13 ce13
                refine takeH (i := 0) (d := (some 94)) (v := ?v18) rfl rfl (by kernel_rfl) (by kernel_rfl) (by kernel_rfl) (fun _ _ _ h => h) (by rfl) ?hy18 (by assumption) ?_
                case hy18 => ((intro w hSw; (try dsimp only at hSw); (try go_split_ands); go_simp); try with_reducible rfl)
                simp only [Act.put, List.setIfInBounds_toArray, List.set_cons_zero, List.set_cons_succ]
                refine takeH (i := 1) (d := (some 95)) (v := ?v19) rfl rfl (by kernel_rfl) (by kernel_rfl) (by kernel_rfl) (fun _ _ _ h => h) (by rfl) ?hy19 (by assumption) ?_
                case hy19 => ((intro w hSw; (try dsimp only at hSw); (try go_split_ands); go_simp); try with_reducible rfl)
                simp only [Act.put, List.setIfInBounds_toArray, List.set_cons_zero, List.set_cons_succ]
                refine takeH (i := 2) (d := (some 96)) (v := ?v20) rfl rfl (by kernel_rfl) (by kernel_rfl) (by kernel_rfl) (fun _ _ _ h => h) (by rfl) ?hy20 (by assumption) ?_
                case hy20 => ((intro w hSw; (try dsimp only at hSw); (try go_split_ands); go_simp); try with_reducible rfl)
                simp only [Act.put, List.setIfInBounds_toArray, List.set_cons_zero, List.set_cons_succ]
                refine takeH (i := 3) (d := (some 97)) (v := ?v21) rfl rfl (by kernel_rfl) (by kernel_rfl) (by kernel_rfl) (fun _ _ _ h => h) (by rfl) ?hy21 (by assumption) ?_
                case hy21 => ((intro w hSw; (try dsimp only at hSw); (try go_split_ands); go_simp); try with_reducible rfl)
                simp only [Act.put, List.setIfInBounds_toArray, List.set_cons_zero, List.set_cons_succ]
                refine takeH (i := 4) (d := (some 98)) (v := ?v22) rfl rfl (by kernel_rfl) (by kernel_rfl) (by kernel_rfl) (fun _ _ _ h => h) (by rfl) ?hy22 (by assumption) ?_
                case hy22 => ((intro w hSw; (try dsimp only at hSw); (try go_split_ands); go_simp); try with_reducible rfl)
                simp only [Act.put, List.setIfInBounds_toArray, List.set_cons_zero, List.set_cons_succ]
                refine takeH (i := 5) (d := (some 99)) (v := ?v23) rfl rfl (by kernel_rfl) (by kernel_rfl) (by kernel_rfl) (fun _ _ _ h => h) (by rfl) ?hy23 (by assumption) ?_
                case hy23 => ((intro w hSw; (try dsimp only at hSw); (try go_split_ands); go_simp); try with_reducible rfl)
                simp only [Act.put, List.setIfInBounds_toArray, List.set_cons_zero, List.set_cons_succ]
                refine takeH (i := 6) (d := (some 100)) (v := ?v24) rfl rfl (by kernel_rfl) (by kernel_rfl) (by kernel_rfl) (fun _ _ _ h => h) (by rfl) ?hy24 (by assumption) ?_
                case hy24 => ((intro w hSw; (try dsimp only at hSw); (try go_split_ands); go_simp); try with_reducible rfl)
                simp only [Act.put, List.setIfInBounds_toArray, List.set_cons_zero, List.set_cons_succ]
                refine takeH (i := 7) (d := (some 101)) (v := ?v25) rfl rfl (by kernel_rfl) (by kernel_rfl) (by kernel_rfl) (fun _ _ _ h => h) (by rfl) ?hy25 (by assumption) ?_
                case hy25 => ((intro w hSw; (try dsimp only at hSw); (try go_split_ands); go_simp); try with_reducible rfl)
                simp only [Act.put, List.setIfInBounds_toArray, List.set_cons_zero, List.set_cons_succ]
                refine takeH (i := 8) (d := (some 102)) (v := ?v26) rfl rfl (by kernel_rfl) (by kernel_rfl) (by kernel_rfl) (fun _ _ _ h => h) (by rfl) ?hy26 (by assumption) ?_
                case hy26 => ((intro w hSw; (try dsimp only at hSw); (try go_split_ands); go_simp); try with_reducible rfl)
                simp only [Act.put, List.setIfInBounds_toArray, List.set_cons_zero, List.set_cons_succ]
                refine takeH (i := 11) (d := (some 105)) (v := ?v27) rfl rfl (by kernel_rfl) (by kernel_rfl) (by kernel_rfl) (fun _ _ _ h => h) (by rfl) ?hy27 (by assumption) ?_
                case hy27 => ((intro w hSw; (try dsimp only at hSw); (try go_split_ands); go_simp); try with_reducible rfl)
                simp only [Act.put, List.setIfInBounds_toArray, List.set_cons_zero, List.set_cons_succ]
                refine takeH (i := 12) (d := (some 106)) (v := ?v28) rfl rfl (by kernel_rfl) (by kernel_rfl) (by kernel_rfl) (fun _ _ _ h => h) (by rfl) ?hy28 (by assumption) ?_
                case hy28 => ((intro w hSw; (try dsimp only at hSw); (try go_split_ands); go_simp); try with_reducible rfl)
                simp only [Act.put, List.setIfInBounds_toArray, List.set_cons_zero, List.set_cons_succ]
                refine takeH (i := 9) (d := (some 103)) (v := ?v29) rfl rfl (by kernel_rfl) (by kernel_rfl) (by kernel_rfl) (fun _ _ _ h => h) (by rfl) ?hy29 (by assumption) ?_
                case hy29 => ((intro w hSw; (try dsimp only at hSw); (try go_split_ands); go_simp); try with_reducible rfl)
                simp only [Act.put, List.setIfInBounds_toArray, List.set_cons_zero, List.set_cons_succ]
                refine takeH (i := 13) (d := (some 107)) (v := ?v30) rfl rfl (by kernel_rfl) (by kernel_rfl) (by kernel_rfl) (fun _ _ _ h => h) (by rfl) ?hy30 (by assumption) ?_
                case hy30 => ((intro w hSw; (try dsimp only at hSw); (try go_split_ands); go_simp); try with_reducible rfl)
                simp only [Act.put, List.setIfInBounds_toArray, List.set_cons_zero, List.set_cons_succ]
                refine takeH (i := 10) (d := (some 104)) (v := ?v31) rfl rfl (by kernel_rfl) (by kernel_rfl) (by kernel_rfl) (fun _ _ _ h => h) (by rfl) ?hy31 (by assumption) ?_
                case hy31 => ((intro w hSw; (try dsimp only at hSw); (try go_split_ands); go_simp); try with_reducible rfl)
                simp only [Act.put, List.setIfInBounds_toArray, List.set_cons_zero, List.set_cons_succ]
                refine takeH (i := 14) (d := (some 108)) (v := ?v32) rfl rfl (by kernel_rfl) (by kernel_rfl) (by kernel_rfl) (fun _ _ _ h => h) (by rfl) ?hy32 (by assumption) ?_
                case hy32 => ((intro w hSw; (try dsimp only at hSw); (try go_split_ands); go_simp); try with_reducible rfl)
                simp only [Act.put, List.setIfInBounds_toArray, List.set_cons_zero, List.set_cons_succ]
                refine wpAnyH_ready (rs := [15]) (by kernel_rfl) (by simp) ?_
                refine AllReadyH.cons rfl (fun K hK => ?_) AllReadyH.nil
                go_simp
                refine (HTo.out _).mono ?_
                rintro e14 w14 ⟨rfl, u14⟩
                go_wp2_with fail
                refine hK.out _ _ ⟨hHeld.1.trans u14, u14.blk hHeld.2.1, u14.blk hHeld.2.2.1, u14.blk hHeld.2.2.2.1, u14.cell2 hHeld.2.2.2.2⟩ (fun hHeld => ?_)
                clear hK K u14
                refine takeH (i := 16) (d := (some 110)) (v := ?v34) rfl rfl (by kernel_rfl) (by kernel_rfl) (by kernel_rfl) (fun _ _ _ h => h) (by rfl) ?hy34 (by assumption) ?_
                case hy34 => ((intro w hSw; (try dsimp only at hSw); (try go_split_ands); go_simp); try with_reducible rfl)
                simp only [Act.put, List.setIfInBounds_toArray, List.set_cons_zero, List.set_cons_succ]
                refine takeH (i := 17) (d := (some 111)) (v := ?v35) rfl rfl (by kernel_rfl) (by kernel_rfl) (by kernel_rfl) (fun _ _ _ h => h) (by rfl) ?hy35 (by assumption) ?_
                case hy35 => ((intro w hSw; (try dsimp only at hSw); (try go_split_ands); go_simp); try with_reducible rfl)
                simp only [Act.put, List.setIfInBounds_toArray, List.set_cons_zero, List.set_cons_succ]
                refine takeH (i := 18) (d := (some 112)) (v := ?v36) rfl rfl (by kernel_rfl) (by kernel_rfl) (by kernel_rfl) (fun _ _ _ h => h) (by rfl) ?hy36 (by assumption) ?_
                case hy36 => ((intro w hSw; (try dsimp only at hSw); (try go_split_ands); go_simp); try with_reducible rfl)
                simp only [Act.put, List.setIfInBounds_toArray, List.set_cons_zero, List.set_cons_succ]
                refine takeH (i := 19) (d := (some 113)) (v := ?v37) rfl rfl (by kernel_rfl) (by kernel_rfl) (by kernel_rfl) (fun _ _ _ h => h) (by rfl) ?hy37 (by assumption) ?_
                case hy37 => ((intro w hSw; (try dsimp only at hSw); (try go_split_ands); go_simp); try with_reducible rfl)
                simp only [Act.put, List.setIfInBounds_toArray, List.set_cons_zero, List.set_cons_succ]
                refine takeH (i := 20) (d := (some 114)) (v := ?v38) rfl rfl (by kernel_rfl) (by kernel_rfl) (by kernel_rfl) (fun _ _ _ h => h) (by rfl) ?hy38 (by assumption) ?_
                case hy38 => ((intro w hSw; (try dsimp only at hSw); (try go_split_ands); go_simp); try with_reducible rfl)
                simp only [Act.put, List.setIfInBounds_toArray, List.set_cons_zero, List.set_cons_succ]
                refine takeH (i := 21) (d := (some 115)) (v := ?v39) rfl rfl (by kernel_rfl) (by kernel_rfl) (by kernel_rfl) (fun _ _ _ h => h) (by rfl) ?hy39 (by assumption) ?_
                case hy39 => ((intro w hSw; (try dsimp only at hSw); (try go_split_ands); go_simp); try with_reducible rfl)
                simp only [Act.put, List.setIfInBounds_toArray, List.set_cons_zero, List.set_cons_succ]
                refine takeH (i := 22) (d := (some 116)) (v := ?v40) rfl rfl (by kernel_rfl) (by kernel_rfl) (by kernel_rfl) (fun _ _ _ h => h) (by rfl) ?hy40 (by assumption) ?_
                case hy40 => ((intro w hSw; (try dsimp only at hSw); (try go_split_ands); go_simp); try with_reducible rfl)
                simp only [Act.put, List.setIfInBounds_toArray, List.set_cons_zero, List.set_cons_succ]
                refine skipH (i := 23) (d := (some 117)) rfl rfl (by kernel_rfl) (by kernel_rfl) (by kernel_rfl) (fun _ _ _ h => h) (by rfl) (by assumption) ?_
                simp only [Act.put, List.setIfInBounds_toArray, List.set_cons_zero, List.set_cons_succ]
                refine skipH (i := 24) (d := (some 118)) rfl rfl (by kernel_rfl) (by kernel_rfl) (by kernel_rfl) (fun _ _ _ h => h) (by rfl) (by assumption) ?_
                simp only [Act.put, List.setIfInBounds_toArray, List.set_cons_zero, List.set_cons_succ]
                refine takeH (i := 25) (d := (some 119)) (v := ?v43) rfl rfl (by kernel_rfl) (by kernel_rfl) (by kernel_rfl) (fun _ _ _ h => h) (by rfl) ?hy43 (by assumption) ?_
                case hy43 => ((intro w hSw; (try dsimp only at hSw); (try go_split_ands); go_simp); try with_reducible rfl)
                simp only [Act.put, List.setIfInBounds_toArray, List.set_cons_zero, List.set_cons_succ]
                refine takeH (i := 26) (d := (some 120)) (v := ?v44) rfl rfl (by kernel_rfl) (by kernel_rfl) (by kernel_rfl) (fun _ _ _ h => h) (by rfl) ?hy44 (by assumption) ?_
                case hy44 => ((intro w hSw; (try dsimp only at hSw); (try go_split_ands); go_simp); try with_reducible rfl)
                simp only [Act.put, List.setIfInBounds_toArray, List.set_cons_zero, List.set_cons_succ]
                refine wpAnyH_done (by kernel_rfl) ?_ _
                go_wp2_with fail
                go_roundw
                case rel => exact ⟨k + 1, by omega, by go_num, hHeld.1, hHeld.2.1, hHeld.2.2.1⟩
                case measure => (simp [intOf]; omega)
              · obtain rfl := q2 hE
                have hk2' : ¬ (k : Int) < 2 := by omega
                have hk2'' : (2 : Int) ≤ (k : Int) := by omega
                have dk1 : decide ((k : Int) < 2) = false := decide_eq_false hk2'
                have dk2 : decide (k < 2) = false := decide_eq_false (by omega)
                have dk3 : decide ((2 : Int) ≤ (k : Int)) = true := decide_eq_true hk2''
                have dk4 : decide (2 ≤ k) = true := decide_eq_true hk2
                clear q1 q2 hE T2
                have A13 := Up.alloc (Up.refl w12) (.cells #[.int .i64 l', .int .i64 h'] 23)
                have m13 := blk_new w12 (.cells #[.int .i64 l', .int .i64 h'] 23) _ rfl
                have kb3 := Up.blk A13 kb
                have gb3 := Up.blk A13 gb
                have V13 := V12.trans A13
                have lb := blk_lt kb
                have lgb := blk_lt gb
                obtain ⟨p13, hp13⟩ : ∃ q, w12.heap.size = q := ⟨_, rfl⟩
                obtain ⟨W13, hW13⟩ : ∃ W, w12.alloc (.cells #[.int .i64 l', .int .i64 h'] 23) = W := ⟨_, rfl⟩
                rw [hp13] at m13
                rw [hW13] at m13 kb3 gb3 V13
                clear kb gb V12 A13
                go_wp2_with fail
                try rw [hW13]
                try rw [hp13]
                clear hp13 hW13 lb lgb
                have ce13 := (cellB gb3 k).trans he
                refine wp_region_held_drew (S := fun w' => Up w w' ∧ mblk w' w.heap.size = some (.cells (BC f s j dl dh ticks (.slice a n c) (.slice a' ls.length c')) 44 (0, 0)) ∧ mblk w' ge = some (.cells #[.int .i64 l, .int .i64 h, .int .i64 (l - 1), .int .i64 (h + 1)] 3 (0, 0)) ∧ mblk w' p13 = some (.cells #[.int .i64 l', .int .i64 h'] 23 (0, 0)) ∧ w'.cell? ⟨ge, k, none⟩ = some (.int .i64 e)) (by kernel_rfl) ⟨V13.drew, by rw [blk_drew]; exact kb3, by rw [blk_drew]; exact gb3, by rw [blk_drew]; exact m13, ce13⟩ (fun hHeld => ?_)
                clear V13 kb3 gb3 m13 ce13
                refine takeH (i := 0) (d := (some 94)) (v := ?v45) rfl rfl (by kernel_rfl) (by kernel_rfl) (by kernel_rfl) (fun _ _ _ h => h) (by rfl) ?hy45 (by assumption) ?_
                case hy45 => ((intro w hSw; (try dsimp only at hSw); (try go_split_ands); go_simp); try with_reducible rfl)
                simp only [Act.put, List.setIfInBounds_toArray, List.set_cons_zero, List.set_cons_succ]
                refine takeH (i := 1) (d := (some 95)) (v := ?v46) rfl rfl (by kernel_rfl) (by kernel_rfl) (by kernel_rfl) (fun _ _ _ h => h) (by rfl) ?hy46 (by assumption) ?_
                case hy46 => ((intro w hSw; (try dsimp only at hSw); (try go_split_ands); go_simp); try with_reducible rfl)
                simp only [Act.put, List.setIfInBounds_toArray, List.set_cons_zero, List.set_cons_succ]
                refine takeH (i := 2) (d := (some 96)) (v := ?v47) rfl rfl (by kernel_rfl) (by kernel_rfl) (by kernel_rfl) (fun _ _ _ h => h) (by rfl) ?hy47 (by assumption) ?_
                case hy47 => ((intro w hSw; (try dsimp only at hSw); (try go_split_ands); go_simp); try with_reducible rfl)
                simp only [Act.put, List.setIfInBounds_toArray, List.set_cons_zero, List.set_cons_succ]
                refine skipH (i := 3) (d := (some 97)) rfl rfl (by kernel_rfl) (by kernel_rfl) (by kernel_rfl) (fun _ _ _ h => h) (by rfl) (by assumption) ?_
                simp only [Act.put, List.setIfInBounds_toArray, List.set_cons_zero, List.set_cons_succ]
                refine skipH (i := 4) (d := (some 98)) rfl rfl (by kernel_rfl) (by kernel_rfl) (by kernel_rfl) (fun _ _ _ h => h) (by rfl) (by assumption) ?_
                simp only [Act.put, List.setIfInBounds_toArray, List.set_cons_zero, List.set_cons_succ]
                refine skipH (i := 5) (d := (some 99)) rfl rfl (by kernel_rfl) (by kernel_rfl) (by kernel_rfl) (fun _ _ _ h => h) (by rfl) (by assumption) ?_
                simp only [Act.put, List.setIfInBounds_toArray, List.set_cons_zero, List.set_cons_succ]
                refine skipH (i := 6) (d := (some 100)) rfl rfl (by kernel_rfl) (by kernel_rfl) (by kernel_rfl) (fun _ _ _ h => h) (by rfl) (by assumption) ?_
                simp only [Act.put, List.setIfInBounds_toArray, List.set_cons_zero, List.set_cons_succ]
                refine skipH (i := 7) (d := (some 101)) rfl rfl (by kernel_rfl) (by kernel_rfl) (by kernel_rfl) (fun _ _ _ h => h) (by rfl) (by assumption) ?_
                simp only [Act.put, List.setIfInBounds_toArray, List.set_cons_zero, List.set_cons_succ]
                refine skipH (i := 8) (d := (some 102)) rfl rfl (by kernel_rfl) (by kernel_rfl) (by kernel_rfl) (fun _ _ _ h => h) (by rfl) (by assumption) ?_
                simp only [Act.put, List.setIfInBounds_toArray, List.set_cons_zero, List.set_cons_succ]
                refine skipH (i := 11) (d := (some 105)) rfl rfl (by kernel_rfl) (by kernel_rfl) (by kernel_rfl) (fun _ _ _ h => h) (by rfl) (by assumption) ?_
                simp only [Act.put, List.setIfInBounds_toArray, List.set_cons_zero, List.set_cons_succ]
                refine skipH (i := 12) (d := (some 106)) rfl rfl (by kernel_rfl) (by kernel_rfl) (by kernel_rfl) (fun _ _ _ h => h) (by rfl) (by assumption) ?_
                simp only [Act.put, List.setIfInBounds_toArray, List.set_cons_zero, List.set_cons_succ]
                refine skipH (i := 9) (d := (some 103)) rfl rfl (by kernel_rfl) (by kernel_rfl) (by kernel_rfl) (fun _ _ _ h => h) (by rfl) (by assumption) ?_
                simp only [Act.put, List.setIfInBounds_toArray, List.set_cons_zero, List.set_cons_succ]
                refine skipH (i := 13) (d := (some 107)) rfl rfl (by kernel_rfl) (by kernel_rfl) (by kernel_rfl) (fun _ _ _ h => h) (by rfl) (by assumption) ?_
                simp only [Act.put, List.setIfInBounds_toArray, List.set_cons_zero, List.set_cons_succ]
                refine skipH (i := 10) (d := (some 104)) rfl rfl (by kernel_rfl) (by kernel_rfl) (by kernel_rfl) (fun _ _ _ h => h) (by rfl) (by assumption) ?_
                simp only [Act.put, List.setIfInBounds_toArray, List.set_cons_zero, List.set_cons_succ]
                refine skipH (i := 14) (d := (some 108)) rfl rfl (by kernel_rfl) (by kernel_rfl) (by kernel_rfl) (fun _ _ _ h => h) (by rfl) (by assumption) ?_
                simp only [Act.put, List.setIfInBounds_toArray, List.set_cons_zero, List.set_cons_succ]
                refine skipH (i := 15) (d := (some 109)) rfl rfl (by kernel_rfl) (by kernel_rfl) (by kernel_rfl) (fun _ _ _ h => h) (by rfl) (by assumption) ?_
                simp only [Act.put, List.setIfInBounds_toArray, List.set_cons_zero, List.set_cons_succ]
                refine skipH (i := 16) (d := (some 110)) rfl rfl (by kernel_rfl) (by kernel_rfl) (by kernel_rfl) (fun _ _ _ h => h) (by rfl) (by assumption) ?_
                simp only [Act.put, List.setIfInBounds_toArray, List.set_cons_zero, List.set_cons_succ]
                refine skipH (i := 17) (d := (some 111)) rfl rfl (by kernel_rfl) (by kernel_rfl) (by kernel_rfl) (fun _ _ _ h => h) (by rfl) (by assumption) ?_
                simp only [Act.put, List.setIfInBounds_toArray, List.set_cons_zero, List.set_cons_succ]
                refine takeH (i := 18) (d := (some 112)) (v := ?v63) rfl rfl (by kernel_rfl) (by kernel_rfl) (by kernel_rfl) (fun _ _ _ h => h) (by rfl) ?hy63 (by assumption) ?_
                case hy63 => ((intro w hSw; (try dsimp only at hSw); (try go_split_ands); go_simp); try with_reducible rfl)
                simp only [Act.put, List.setIfInBounds_toArray, List.set_cons_zero, List.set_cons_succ]
                refine takeH (i := 19) (d := (some 113)) (v := ?v64) rfl rfl (by kernel_rfl) (by kernel_rfl) (by kernel_rfl) (fun _ _ _ h => h) (by rfl) ?hy64 (by assumption) ?_
                case hy64 => ((intro w hSw; (try dsimp only at hSw); (try go_split_ands); go_simp); try with_reducible rfl)
                simp only [Act.put, List.setIfInBounds_toArray, List.set_cons_zero, List.set_cons_succ]
                refine takeH (i := 20) (d := (some 114)) (v := ?v65) rfl rfl (by kernel_rfl) (by kernel_rfl) (by kernel_rfl) (fun _ _ _ h => h) (by rfl) ?hy65 (by assumption) ?_
                case hy65 => ((intro w hSw; (try dsimp only at hSw); (try go_split_ands); go_simp); try with_reducible rfl)
                simp only [Act.put, List.setIfInBounds_toArray, List.set_cons_zero, List.set_cons_succ]
                refine takeH (i := 21) (d := (some 115)) (v := ?v66) rfl rfl (by kernel_rfl) (by kernel_rfl) (by kernel_rfl) (fun _ _ _ h => h) (by rfl) ?hy66 (by assumption) ?_
                case hy66 => ((intro w hSw; (try dsimp only at hSw); (try go_split_ands); go_simp); try with_reducible rfl)
                simp only [Act.put, List.setIfInBounds_toArray, List.set_cons_zero, List.set_cons_succ]
                refine takeH (i := 22) (d := (some 116)) (v := ?v67) rfl rfl (by kernel_rfl) (by kernel_rfl) (by kernel_rfl) (fun _ _ _ h => h) (by rfl) ?hy67 (by assumption) ?_
                case hy67 => ((intro w hSw; (try dsimp only at hSw); (try go_split_ands); go_simp); try with_reducible rfl)
                simp only [Act.put, List.setIfInBounds_toArray, List.set_cons_zero, List.set_cons_succ]
                refine takeH (i := 23) (d := (some 117)) (v := ?v68) rfl rfl (by kernel_rfl) (by kernel_rfl) (by kernel_rfl) (fun _ _ _ h => h) (by rfl) ?hy68 (by assumption) ?_
                case hy68 => ((intro w hSw; (try dsimp only at hSw); (try go_split_ands); go_simp); try with_reducible rfl)
                simp only [Act.put, List.setIfInBounds_toArray, List.set_cons_zero, List.set_cons_succ]
                refine takeH (i := 24) (d := (some 118)) (v := ?v69) rfl rfl (by kernel_rfl) (by kernel_rfl) (by kernel_rfl) (fun _ _ _ h => h) (by rfl) ?hy69 (by assumption) ?_
                case hy69 => ((intro w hSw; (try dsimp only at hSw); (try go_split_ands); go_simp); try with_reducible rfl)
                simp only [Act.put, List.setIfInBounds_toArray, List.set_cons_zero, List.set_cons_succ]
                refine takeH (i := 25) (d := (some 119)) (v := ?v70) rfl rfl (by kernel_rfl) (by kernel_rfl) (by kernel_rfl) (fun _ _ _ h => h) (by rfl) ?hy70 (by assumption) ?_
                case hy70 => ((intro w hSw; (try dsimp only at hSw); (try go_split_ands); go_simp); try with_reducible rfl)
                simp only [Act.put, List.setIfInBounds_toArray, List.set_cons_zero, List.set_cons_succ]
                refine takeH (i := 26) (d := (some 120)) (v := ?v71) rfl rfl (by kernel_rfl) (by kernel_rfl) (by kernel_rfl) (fun _ _ _ h => h) (by rfl) ?hy71 (by assumption) ?_
                case hy71 => ((intro w hSw; (try dsimp only at hSw); (try go_split_ands); go_simp); try with_reducible rfl)
                simp only [Act.put, List.setIfInBounds_toArray, List.set_cons_zero, List.set_cons_succ]
                refine wpAnyH_done (by kernel_rfl) ?_ _
                go_wp2_with fail
                go_roundw
                case rel => exact ⟨k + 1, by omega, by go_num, hHeld.1, hHeld.2.1, hHeld.2.2.1⟩
                case measure => (simp [intOf]; omega)
          · obtain rfl : k = 4 := by omega
            go_wp2_with fail
            refine (HW.out _).mono ?_
            rintro e w4 ⟨rfl, u4⟩
            go_wp2
            go_ret
            exact ⟨rfl, V.trans u4⟩
end

end Go.Proofs.Ytcadpdbadgejfaa
