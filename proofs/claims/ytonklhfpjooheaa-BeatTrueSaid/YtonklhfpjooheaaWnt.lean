import Derived.Test.YtonklhfpjooheaaWna
import Derived.Test.YtonklhfpjooheaaLsL
import Derived.Test.YtonklhfpjooheaaHeQ
/- The contract of the laws' went. -/
namespace Go.Proofs.Ytonklhfpjooheaa
open Go.RowKit Go.Shelf
attribute [local go_sem] Oper.semAt_some

theorem T.cut_step {os : T.LO} {j : Nat} (hj : j < os.length) : (os.take (j + 1)).map T.cutO = (os.take j).map T.cutO ++ [T.cutO (os.getD j (0, 0, 0, 0))] := by
  rw [List.take_add_one, List.getElem?_eq_getElem hj, List.map_append, List.getD_eq_getElem?_getD, List.getElem?_eq_getElem hj]
  rfl
theorem T.Mrs.up {w w' : World} {us : List Value} {rows : List (List Int)} {H k b : Nat} (h : T.Mrs w us rows H k b) (u : Up w w') : T.Mrs w' us rows H k b := h.keep (Nat.le_refl _) (fun _ _ _ q => u.blk q)
section
variable {aR aO aP : Option Addr} {H nR cR nO cO nP cP : Nat} {rs : T.LR} {os : T.LO} {ps : T.LP}
set_option maxRecDepth 100000 in
set_option maxHeartbeats 8000000 in
set_option linter.unusedSimpArgs false in
theorem l_went_any {w : World} {vb : Value} {bits : List Int} (G : T.Good H rs os ps) (I : Sps w (.slice aR nR cR) rs) (IO : Ops w (.slice aO nO cO) os) (IP : Prs w (.slice aP nP cP) ps) (IB : Ints w vb bits) :
    Calls Try.prog 33 #[ClV H (.slice aR nR cR) (.slice aO nO cO) (.slice aP nP cP), vb] w fun e w' => (∃ (aV a2 a3 : Option Addr) (nV cV n2 c2 n3 c3 : Nat) (rows : List (List Int)) (d : Int × Int → Int) (os' : T.LO) (ps' : T.LP), e = .returned (.tuple #[.slice aV nV cV, ClV H (.slice aR nR cR) (.slice a2 n2 c2) (.slice a3 n3 c3)]) ∧ T.Rows w' (.slice aV nV cV) rows ∧ Ops w' (.slice a2 n2 c2) os' ∧ Prs w' (.slice a3 n3 c3) ps' ∧ T.Good H rs os' ps' ∧ T.Table H rs rows d ∧ T.Tr H rs os' ps' d) ∧ Up w w' := by
  have hn := I.len
  subst hn
  have hno := IO.len
  subst hno
  have hnp := IP.len
  subst hnp
  have q1 := G.h1
  have q2 := G.h2
  have q3 := G.r1
  have q4 := G.r2
  have q5 := G.o6
  have q6 := G.p14
  obtain ⟨a', c', e', _, _, hm⟩ := I.is
  injection e' with ea eb ec
  clear eb ec
  obtain ⟨gR, oR, ga, glR, hxR⟩ := hm (by omega)
  subst ea ga
  clear hm
  have hmx : Try.prog.follows .mixedOrders = true := by kernel_rfl
  have HO := Lib.hid (fun w' (u : Up w w') => IO.up u)
  have HP := Lib.hid (fun w' (u : Up w w') => IP.up u)
  have HB := Lib.hid (fun w' (u : Up w w') => IB.up u)
  have HxR := Lib.hid (fun w' (u : Up w w') (k : Nat) (hk : k < rs.length) => And.intro (show w'.cell? ⟨gR, oR + k * 2, none⟩ = some (.int .i64 (rs.getD k (0, 0)).1) from (u.facts.1 gR _ glR).trans (hxR k hk 0 (by omega))) (show w'.cell? ⟨gR, oR + k * 2 + 1, none⟩ = some (.int .i64 (rs.getD k (0, 0)).2) from (u.facts.1 gR _ glR).trans (hxR k hk 1 (by omega))))
  have HG := Lib.hid G
  have HTo := Lib.hid (fun l h w => B_To_any l h w)
  clear glR hxR G I IO IP IB
  go_enter Try.func33, Try.ntmps33
  obtain ⟨q0, e0⟩ : ∃ x, w.heap.size = x := ⟨_, rfl⟩
  have U := (((Up.refl w).alloc (.cells #[.int .i64 H, .slice (some ⟨gR, oR, none⟩) rs.length cR, .slice aO os.length cO, .slice aP ps.length cP] 26)).alloc (.cells #[.int .i64 0, .slice none 0 0, .slice none 0 0, .slice none 0 0] 26)).alloc (.cells #[.int .i64 H, .slice (some ⟨gR, oR, none⟩) rs.length cR, .slice none 0 0, .slice none 0 0] 26)
  have kC := blk_keep (.cells #[.int .i64 H, .slice (some ⟨gR, oR, none⟩) rs.length cR, .slice none 0 0, .slice none 0 0] 26) (blk_keep (.cells #[.int .i64 0, .slice none 0 0, .slice none 0 0, .slice none 0 0] 26) (blk_new w (.cells #[.int .i64 H, .slice (some ⟨gR, oR, none⟩) rs.length cR, .slice aO os.length cO, .slice aP ps.length cP] 26) q0 e0.symm))
  have kZ := blk_keep (.cells #[.int .i64 H, .slice (some ⟨gR, oR, none⟩) rs.length cR, .slice none 0 0, .slice none 0 0] 26) (blk_new (w.alloc (.cells #[.int .i64 H, .slice (some ⟨gR, oR, none⟩) rs.length cR, .slice aO os.length cO, .slice aP ps.length cP] 26)) (.cells #[.int .i64 0, .slice none 0 0, .slice none 0 0, .slice none 0 0] 26) (q0 + 1) (by simp [e0]))
  have kX := blk_new ((w.alloc (.cells #[.int .i64 H, .slice (some ⟨gR, oR, none⟩) rs.length cR, .slice aO os.length cO, .slice aP ps.length cP] 26)).alloc (.cells #[.int .i64 0, .slice none 0 0, .slice none 0 0, .slice none 0 0] 26)) (.cells #[.int .i64 H, .slice (some ⟨gR, oR, none⟩) rs.length cR, .slice none 0 0, .slice none 0 0] 26) (q0 + 1 + 1) (by simp [e0])
  go_wp2_with fail
  go_loopw [7] (fun i wr => ∃ (j n : Nat) (a : Option Addr) (c : Nat), j ≤ os.length ∧ i = .int .i64 j ∧ Hid (wr.ownsRow (q0 + 3) 63 4 (.slice a n c) n (T.flat 4 T.encO ((os.take j).map T.cutO))) ∧ n ≤ j ∧ Up w wr ∧ mblk wr q0 = some (.cells #[.int .i64 H, .slice (some ⟨gR, oR, none⟩) rs.length cR, .slice aO os.length cO, .slice aP ps.length cP] 26 (0, 0)) ∧ mblk wr (q0 + 1) = some (.cells #[.int .i64 0, .slice none 0 0, .slice none 0 0, .slice none 0 0] 26 (0, 0)) ∧ mblk wr (q0 + 1 + 1) = some (.cells #[.int .i64 H, .slice (some ⟨gR, oR, none⟩) rs.length cR, .slice a n c, .slice none 0 0] 26 (0, 0))) (fun i _ => os.length - (intOf i).toNat)
  case atStart => exact ⟨0, 0, none, 0, Nat.zero_le _, rfl, Lib.hid ⟨rfl, .inl ⟨rfl, rfl⟩⟩, Nat.le_refl _, U, kC, kZ, kX⟩
  case round =>
    clear U kC kZ kX
    obtain ⟨j, n, a, c, hj, rfl, HO1, hnj, U, kC, kZ, kX⟩ := hrel
    by_cases hlt : j < os.length
    · skip
      have ew : IntKind.i64.wrap ((j : Int) + 1) = (j : Int) + 1 := IntWalk.i64_in _ (by omega)
      have dk : decide ((j : Int) < (os.length : Int)) = true := decide_eq_true (by omega)
      have ilt : (j : Int) < (os.length : Int) := by omega
      have st := T.cut_step hlt
      obtain ⟨a', c', e', _, _, hm⟩ := (HO.out _ U).is
      injection e' with ea eb ec
      clear eb ec
      obtain ⟨g, off, ga, gl, hx⟩ := hm (by omega)
      subst ea ga
      clear hm
      obtain ⟨⟨r0, r1, r2, r3⟩, hss⟩ : ∃ s, os.getD j (0, 0, 0, 0) = s := ⟨_, rfl⟩
      have cc0 := hx j hlt 0 (by omega)
      have cc1 := hx j hlt 1 (by omega)
      have cc2 := hx j hlt 2 (by omega)
      have cc3 := hx j hlt 3 (by omega)
      rw [hss] at cc0 cc1 cc2 cc3
      replace cc0 : wr.cell? ⟨g, off + j * 4, none⟩ = some (.int .i64 r0) := cc0
      replace cc1 : wr.cell? ⟨g, off + j * 4 + 1, none⟩ = some (.int .i64 r1) := cc1
      replace cc2 : wr.cell? ⟨g, off + j * 4 + 2, none⟩ = some (.int .i64 r2) := cc2
      replace cc3 : wr.cell? ⟨g, off + j * 4 + 3, none⟩ = some (.int .i64 r3) := cc3
      clear hx
      obtain ⟨y2, hy2⟩ : ∃ z, Min.min 500 r2 = z := ⟨_, rfl⟩
      obtain ⟨l', hl'⟩ : ∃ z, Max.max (-500) y2 = z := ⟨_, rfl⟩
      obtain ⟨y3, hy3⟩ : ∃ z, Min.min 500 r3 = z := ⟨_, rfl⟩
      obtain ⟨h', hh'⟩ : ∃ z, Max.max (-500) y3 = z := ⟨_, rfl⟩
      have M1 := min_run hy2
      have M2 := max_run hl'
      have M3 := min_run hy3
      have M4 := max_run hh'
      have hcut : T.cutO (r0, r1, r2, r3) = (r0, r1, l', h') := by unfold T.cutO T.cut; simp only [hy2, hl', hy3, hh']
      rw [hss, hcut] at st
      have HS := Lib.hid st
      have hlt2 := fun g e => (HO1.out.lt g e).2
      clear hss hcut hy2 hl' hy3 hh' st
      have i_kC := kC
      have l_kC := blk_lt kC
      have i_kZ := kZ
      have l_kZ := blk_lt kZ
      have i_kX := kX
      have l_kX := blk_lt kX
      have ko := blk_new wr (.cells #[.int .i64 r0, .int .i64 r1, .int .i64 r2, .int .i64 r3] 63) _ rfl
      replace kC := blk_keep (.cells #[.int .i64 r0, .int .i64 r1, .int .i64 r2, .int .i64 r3] 63) kC
      replace kZ := blk_keep (.cells #[.int .i64 r0, .int .i64 r1, .int .i64 r2, .int .i64 r3] 63) kZ
      replace kX := blk_keep (.cells #[.int .i64 r0, .int .i64 r1, .int .i64 r2, .int .i64 r3] 63) kX
      replace U := U.alloc (.cells #[.int .i64 r0, .int .i64 r1, .int .i64 r2, .int .i64 r3] 63)
      have n_HO1 := Lib.hid (HO1.out.alloc (.cells #[.int .i64 r0, .int .i64 r1, .int .i64 r2, .int .i64 r3] 63))
      clear HO1
      obtain ⟨pko, hpko⟩ : ∃ z, wr.heap.size = z := ⟨_, rfl⟩
      obtain ⟨W1, hW1⟩ : ∃ z, wr.alloc (.cells #[.int .i64 r0, .int .i64 r1, .int .i64 r2, .int .i64 r3] 63) = z := ⟨_, rfl⟩
      rw [hpko] at ko l_kC l_kZ l_kX
      rw [hW1] at ko U kC kZ kX n_HO1
      rw [hpko] at hlt2
      go_wp2_with fail
      clear hpko hW1 i_kC i_kZ i_kX M1 M2 M3 M4 cc0 cc1 cc2 cc3
      refine (HTo.out _ _ _).mono ?_
      rintro e x1 ⟨rfl, u⟩
      replace U := U.trans u
      replace kC := u.blk kC
      replace kZ := u.blk kZ
      replace kX := u.blk kX
      replace ko := u.blk ko
      have HO2 := Lib.hid (row_up n_HO1.out u)
      have hne : some pko ≠ (Value.slice a n c).ownBlock := fun e => by have := hlt2 pko e.symm; omega
      clear u n_HO1 hlt2
      have zf := frozB ko
      have i0 := ko
      have U1 := ((U.set (p := ⟨pko, 2, none⟩) (show w.heap.size ≤ pko by omega) (.int .i64 l')).set (p := ⟨pko, 3, none⟩) (show w.heap.size ≤ pko by omega) (.int .i64 h'))
      have jkC := kC
      rw [← blk_set (x1) ⟨pko, 2, none⟩ (.int .i64 l') (q0) (by show q0 ≠ pko; omega), ← blk_set ((x1).setCell ⟨pko, 2, none⟩ (.int .i64 l')) ⟨pko, 3, none⟩ (.int .i64 h') (q0) (by show q0 ≠ pko; omega)] at jkC
      have jkZ := kZ
      rw [← blk_set (x1) ⟨pko, 2, none⟩ (.int .i64 l') (q0 + 1) (by show q0 + 1 ≠ pko; omega), ← blk_set ((x1).setCell ⟨pko, 2, none⟩ (.int .i64 l')) ⟨pko, 3, none⟩ (.int .i64 h') (q0 + 1) (by show q0 + 1 ≠ pko; omega)] at jkZ
      have jkX := kX
      rw [← blk_set (x1) ⟨pko, 2, none⟩ (.int .i64 l') (q0 + 1 + 1) (by show q0 + 1 + 1 ≠ pko; omega), ← blk_set ((x1).setCell ⟨pko, 2, none⟩ (.int .i64 l')) ⟨pko, 3, none⟩ (.int .i64 h') (q0 + 1 + 1) (by show q0 + 1 + 1 ≠ pko; omega)] at jkX
      have jko : mblk (((x1).setCell ⟨pko, 2, none⟩ (.int .i64 l')).setCell ⟨pko, 3, none⟩ (.int .i64 h')) pko = some (.cells #[.int .i64 r0, .int .i64 r1, .int .i64 l', .int .i64 h'] 63 (0, 0)) := (blk_put (blk_put ko 2 (.int .i64 l')) 3 (.int .i64 h'))
      obtain ⟨W2, hW2⟩ : ∃ z, ((x1).setCell ⟨pko, 2, none⟩ (.int .i64 l')).setCell ⟨pko, 3, none⟩ (.int .i64 h') = z := ⟨_, rfl⟩
      rw [hW2] at jkC jkZ jkX jko U1
      clear kC kZ kX ko U
      have kC := jkC
      have kZ := jkZ
      have kX := jkX
      have ko := jko
      have U := U1
      clear jkC jkZ jkX jko U1
      have HO3 := Lib.hid (row_other (row_other HO2.out (grown_set x1 pko 2 (.int .i64 l')) hne) (grown_set _ pko 3 (.int .i64 h')) hne)
      rw [hW2] at HO3
      clear HO2
      have i_kC := kC
      have jkC := blk_keep (.cells #[.int .i64 r0, .int .i64 r1, .int .i64 l', .int .i64 h'] 63) kC
      have tkC := blk_lt kC
      have i_kZ := kZ
      have jkZ := blk_keep (.cells #[.int .i64 r0, .int .i64 r1, .int .i64 l', .int .i64 h'] 63) kZ
      have tkZ := blk_lt kZ
      have i_kX := kX
      have jkX := blk_keep (.cells #[.int .i64 r0, .int .i64 r1, .int .i64 l', .int .i64 h'] 63) kX
      have tkX := blk_lt kX
      have i_ko := ko
      have jko := blk_keep (.cells #[.int .i64 r0, .int .i64 r1, .int .i64 l', .int .i64 h'] 63) ko
      have tko := blk_lt ko
      have own0 := HO3.out.alloc (.cells #[.int .i64 r0, .int .i64 r1, .int .i64 l', .int .i64 h'] 63)
      have U1 := U.alloc (.cells #[.int .i64 r0, .int .i64 r1, .int .i64 l', .int .i64 h'] 63)
      have IN := T.one_open W2 r0 r1 l' h'
      have hb1 : q0 + 3 ≤ W2.heap.size := by omega
      go_wp2_with (at_builtin; refine T.wpList_app T.elO rfl (.tmp 48) (.tmp 50) rfl IN rfl (q0 + 3) _ n rfl own0 (by omega) (by simp) (by simp; omega) ?_; intro v1 w1 own1 grow1; have rkC := grown_blk grow1 jkC (row_block own0 (by omega)); have rkZ := grown_blk grow1 jkZ (row_block own0 (by omega)); have rkX := grown_blk grow1 jkX (row_block own0 (by omega)); have U2 : Up w w1 := U1.grown grow1 (fun k e => by (have := row_base own0 k e; omega)); obtain ⟨a1, c1, rfl, _, _⟩ := row_val own1; have zx := frozB rkX)
      have ykX : mblk (w1.setCell ⟨q0 + 1 + 1, 2, none⟩ (.slice a1 (n + 1) c1)) (q0 + 1 + 1) = some (.cells #[.int .i64 H, .slice (some ⟨gR, oR, none⟩) rs.length cR, .slice a1 (n + 1) c1, .slice none 0 0] 26 (0, 0)) := blk_put rkX 2 _
      have ykC : mblk (w1.setCell ⟨q0 + 1 + 1, 2, none⟩ (.slice a1 (n + 1) c1)) (q0) = some (.cells #[.int .i64 H, .slice (some ⟨gR, oR, none⟩) rs.length cR, .slice (some ⟨g, off, none⟩) os.length cO, .slice aP ps.length cP] 26 (0, 0)) := by rw [blk_set _ _ _ _ (by show q0 ≠ q0 + 1 + 1; omega)]; exact rkC
      have ykZ : mblk (w1.setCell ⟨q0 + 1 + 1, 2, none⟩ (.slice a1 (n + 1) c1)) (q0 + 1) = some (.cells #[.int .i64 0, .slice none 0 0, .slice none 0 0, .slice none 0 0] 26 (0, 0)) := by rw [blk_set _ _ _ _ (by show q0 + 1 ≠ q0 + 1 + 1; omega)]; exact rkZ
      have U3 := U2.set (p := ⟨q0 + 1 + 1, 2, none⟩) (show w.heap.size ≤ q0 + 1 + 1 by omega) (.slice a1 (n + 1) c1)
      have HO4 := Lib.hid (show (w1.setCell ⟨q0 + 1 + 1, 2, none⟩ (.slice a1 (n + 1) c1)).ownsRow (q0 + 3) 63 4 (.slice a1 (n + 1) c1) (n + 1) (T.flat 4 T.encO ((os.take (j + 1)).map T.cutO)) by
        rw [HS.out]
        exact row_other own1 (grown_set w1 (q0 + 1 + 1) 2 _) (row_block own1 (by omega)))
      clear own1 own0 grow1 IN U1 U2 zx HO3 jkC jkZ jkX jko rkC rkZ rkX i_kC i_kZ i_kX i_ko kC kZ kX ko U
      go_roundw
      case rel => exact ⟨j + 1, n + 1, a1, c1, by omega, by go_num, HO4, by omega, U3, ykC, ykZ, ykX⟩
      case measure => (simp only [intOf]; omega)
    · skip
      obtain rfl : j = os.length := by omega
      have dk : decide ((os.length : Int) < (os.length : Int)) = false := decide_eq_false (by omega)
      have own := HO1.out
      rw [List.take_length] at own
      obtain rfl : n = os.length := by have := (Tab.of_row (d := (0, 0, 0, 0)) own (by decide) (by omega)).len; rw [List.length_map] at this; exact this
      obtain ⟨W2, hW2⟩ : ∃ z, z = wr := ⟨_, rfl⟩
      subst hW2
      obtain ⟨b2, hb2⟩ : ∃ x, W2.heap.size = x := ⟨_, rfl⟩
      have HK := Lib.hid (fun w' (u : Up W2 w') => And.intro (u.blk kC) (And.intro (u.blk kZ) (And.intro (u.blk kX) (And.intro (U.trans u) (row_up own u)))))
      have lX := blk_lt kX
      have HAP := Lib.hid (fun g e => own.lt g e)
      rw [hb2] at lX
      clear HO1 own
      go_wp2_with fail
      clear kC kZ kX U
      go_loopw [9, 10] (fun v i wr => ∃ (k : Nat) (us : List Value) (rows : List (List Int)), k ≤ rs.length ∧ i = .int .i64 k ∧ Up W2 wr ∧ Hid (wr.ownsRow b2 44 1 v k us) ∧ Hid (T.Mrs wr us rows H k wr.heap.size ∧ ∀ i, i < k → T.Rw rs (os.map T.cutO) i H (rows.getD i []))) (fun _ i _ => rs.length - (intOf i).toNat)
      case atStart => exact ⟨0, [], [], Nat.zero_le _, rfl, Up.refl W2, Lib.hid (World.ownsRow_nil _ _ _ _), Lib.hid ⟨⟨rfl, rfl, fun i hi => absurd hi (Nat.not_lt_zero _)⟩, fun i hi => absurd hi (Nat.not_lt_zero _)⟩⟩
      case round =>
        obtain ⟨k, us, rows, hk, rfl, V, HOut, HR⟩ := hrel
        by_cases hlt : k < rs.length
        · skip
          have d1 : decide ((k : Int) < (rs.length : Int)) = true := decide_eq_true (by omega)
          have ilt : (k : Int) < (rs.length : Int) := by omega
          have ek : IntKind.i64.wrap ((k : Int) + 1) = (k : Int) + 1 := IntWalk.i64_in _ (by omega)
          have hbs := HG.out.rsB (rs.getD k (0, 0)) (by rw [List.getD_eq_getElem?_getD, List.getElem?_eq_getElem hlt]; exact List.getElem_mem _)
          have HcR := Lib.hid (fun w' (u : Up W2 w') => HxR.out w' (HK.out _ u).2.2.2.1 k hlt)
          obtain ⟨⟨r0, r1⟩, hss⟩ : ∃ s, rs.getD k (0, 0) = s := ⟨_, rfl⟩
          rw [hss] at hbs HcR
          have hb0 : -1000 ≤ r0 ∧ r0 ≤ r1 ∧ r1 ≤ 1000 := ⟨hbs.1.1.1, hbs.2, hbs.1.2.2⟩
          obtain ⟨t0, ht0⟩ : ∃ z, S.at bits (k : Int) = z := ⟨_, rfl⟩
          have HA0 := Lib.hid (fun w' (u : Up W2 w') => show Calls Try.prog 65 #[vb, .int .i64 (k : Int)] w' fun e w'' => e = .returned (.int .i64 t0) ∧ w' = w'' by rw [← ht0]; exact B_At_any (HB.out _ (HK.out _ u).2.2.2.1) _)
          obtain ⟨n0, hn0⟩ : ∃ z, S.frm (-1000) 1000 t0 = z := ⟨_, rfl⟩
          have HF0 := Lib.hid (fun w' => show Calls Try.prog 64 #[SpV (-1000) 1000, .int .i64 t0] w' fun e w'' => e = .returned (.int .i64 n0) ∧ Up w' w'' by rw [← hn0]; exact B_From_any _ _ _ _ (by decide) (by decide) (by decide) (by decide))
          have hn0b := S.frm_in (l := -1000) (h := 1000) (by decide) t0
          rw [hn0] at hn0b
          have HSS := Lib.hid hss
          clear hbs hss ht0 hn0
          have kC := (HK.out _ V).1
          go_wp2_with fail
          clear kC
          refine (HTo.out _ _ _).mono ?_
          rintro e x1 ⟨rfl, u1⟩
          go_wp2_with fail
          refine (HA0.out _ (V.trans u1)).mono ?_
          rintro e x2 ⟨rfl, rfl⟩
          go_wp2_with fail
          refine (HF0.out _).mono ?_
          rintro e Wk ⟨rfl, u2⟩
          have u3 := u1.trans u2
          have VW := V.trans u3
          have HOu2 := Lib.hid (row_up HOut.out u3)
          have HR2 := Lib.hid (And.intro (HR.out.1.up u3) HR.out.2)
          have hsk := u3.size
          obtain ⟨bk, hbk⟩ : ∃ x, Wk.heap.size = x := ⟨_, rfl⟩
          have HRow := Lib.hid (World.ownsRow_lit (base := Wk.heap.size) (e := 3) (size := 1) Wk #[.int .i64 n0] 1 (Nat.le_refl _) (by unfold maxLen; omega) rfl)
          have X3 := (Up.refl Wk).alloc (.cells #[.int .i64 n0] 3)
          rw [hbk] at HRow hsk
          clear u1 u2 u3 V HOut HR HA0 HF0
          go_wp2_with fail
          try rw [hbk]
          go_loopw [11, 12, 13] (fun nv v i wr => ∃ (h : Nat) (L : List Int) (now : Int), h ≤ H ∧ i = .int .i64 h ∧ nv = .int .i64 now ∧ Up Wk wr ∧ Hid (wr.ownsRow bk 3 1 v (h + 1) (L.map (Value.int .i64))) ∧ Hid (T.Rw rs (os.map T.cutO) k h L ∧ L.getD h 0 = now)) (fun _ _ i _ => H - (intOf i).toNat)
          case atStart => exact ⟨0, [n0], n0, Nat.zero_le _, rfl, rfl, X3, HRow, Lib.hid ⟨T.Rw.one k hn0b, rfl⟩⟩
          case round =>
            clear X3 HRow
            obtain ⟨h, L, now, hh, rfl, rfl, X3, HRow, HL⟩ := hrel
            have hnow := HL.out.1.bd HG.out hlt h (Nat.le_refl _)
            rw [HL.out.2] at hnow
            by_cases hlt3 : h < H
            · skip
              have d3 : decide ((h : Int) < (H : Int)) = true := decide_eq_true (by omega)
              have ilt3 : (h : Int) < (H : Int) := by omega
              have eh : IntKind.i64.wrap ((h : Int) + 1) = (h : Int) + 1 := IntWalk.i64_in _ (by omega)
              have w1 : IntKind.i64.wrap (2 * (h : Int)) = 2 * (h : Int) := IntWalk.i64_in _ (by omega)
              have w2 : IntKind.i64.wrap ((k : Int) + 2 * (h : Int)) = (k : Int) + 2 * (h : Int) := IntWalk.i64_in _ (by omega)
              have w3 : IntKind.i64.wrap ((k : Int) + 2 * (h : Int) + 1) = (k : Int) + 2 * (h : Int) + 1 := IntWalk.i64_in _ (by omega)
              obtain ⟨t1, ht1⟩ : ∃ z, S.at bits ((k : Int) + 2 * (h : Int) + 1) = z := ⟨_, rfl⟩
              have HA1 := Lib.hid (fun w' (u : Up Wk w') => show Calls Try.prog 65 #[vb, .int .i64 ((k : Int) + 2 * (h : Int) + 1)] w' fun e w'' => e = .returned (.int .i64 t1) ∧ w' = w'' by rw [← ht1]; exact B_At_any (HB.out _ (HK.out _ (VW.trans u)).2.2.2.1) _)
              obtain ⟨n1, hn1⟩ : ∃ z, S.frm r0 r1 t1 = z := ⟨_, rfl⟩
              have HF1 := Lib.hid (fun w' => show Calls Try.prog 64 #[SpV r0 r1, .int .i64 t1] w' fun e w'' => e = .returned (.int .i64 n1) ∧ Up w' w'' by rw [← hn1]; exact B_From_any _ _ _ _ (by omega) (by omega) (by omega) (by omega))
              have hn1b := S.frm_in hb0.2.1 t1
              rw [hn1] at hn1b
              have w4 : IntKind.i64.wrap (now + n1) = now + n1 := IntWalk.i64_in _ (by omega)
              clear ht1 hn1
              have kC := (HK.out _ (VW.trans X3)).1
              go_wp2_with fail
              have F12 := Lib.hid (fun w (u : Up wr w) => cellB (u.blk kC))
              refine (wpIn_wide (n := 5)).1 ?_
              refine wpIn_nrm ?_
              refine T.regionQ (fun w' => Up wr w') 15 1 hmx (by kernel_rfl) (by kernel_rfl) ((Up.refl wr).drew) (fun hCl => ?_)
              refine T.qTake (i := 0) (d := (some 73)) (v := ?v1) rfl rfl (by kernel_rfl) (by decide) hCl (by kernel_rfl) (by kernel_rfl) (by kernel_rfl) (by rfl) ?hy1 (fun _ _ _ => trivial) (fun hCl' => ?_)
              case hy1 => (intro w hSw; refine T.qVal ?_ hSw; (have fF12 := F12.out w hSw; obtain ⟨z0, z1⟩ := HcR.out w (VW.trans (X3.trans hSw))); (try dsimp only [List.getElem_toArray, List.getElem_cons_succ, List.getElem_cons_zero]); go_simp; try with_reducible rfl)
              simp only [Act.put, List.setIfInBounds_toArray, List.set_cons_zero, List.set_cons_succ]
              replace hCl := hCl'; clear hCl'
              refine T.qTake (i := 1) (d := (some 74)) (v := ?v2) rfl rfl (by kernel_rfl) (by decide) hCl (by kernel_rfl) (by kernel_rfl) (by kernel_rfl) (by rfl) ?hy2 (fun _ _ _ => trivial) (fun hCl' => ?_)
              case hy2 => (intro w hSw; refine T.qVal ?_ hSw; (have fF12 := F12.out w hSw; obtain ⟨z0, z1⟩ := HcR.out w (VW.trans (X3.trans hSw))); (try dsimp only [List.getElem_toArray, List.getElem_cons_succ, List.getElem_cons_zero]); go_simp; try with_reducible rfl)
              simp only [Act.put, List.setIfInBounds_toArray, List.set_cons_zero, List.set_cons_succ]
              replace hCl := hCl'; clear hCl'
              refine T.qTake (i := 3) (d := (some 76)) (v := ?v3) rfl rfl (by kernel_rfl) (by decide) hCl (by kernel_rfl) (by kernel_rfl) (by kernel_rfl) (by rfl) ?hy3 (fun _ _ _ => trivial) (fun hCl' => ?_)
              case hy3 => (intro w hSw; refine T.qVal ?_ hSw; (have fF12 := F12.out w hSw; obtain ⟨z0, z1⟩ := HcR.out w (VW.trans (X3.trans hSw))); (try dsimp only [List.getElem_toArray, List.getElem_cons_succ, List.getElem_cons_zero]); go_simp; try with_reducible rfl)
              simp only [Act.put, List.setIfInBounds_toArray, List.set_cons_zero, List.set_cons_succ]
              replace hCl := hCl'; clear hCl'
              refine T.qTake (i := 6) (d := (some 79)) (v := ?v4) rfl rfl (by kernel_rfl) (by decide) hCl (by kernel_rfl) (by kernel_rfl) (by kernel_rfl) (by rfl) ?hy4 (fun _ _ _ => trivial) (fun hCl' => ?_)
              case hy4 => (intro w hSw; refine T.qVal ?_ hSw; (have fF12 := F12.out w hSw; obtain ⟨z0, z1⟩ := HcR.out w (VW.trans (X3.trans hSw))); (try dsimp only [List.getElem_toArray, List.getElem_cons_succ, List.getElem_cons_zero]); go_simp; try with_reducible rfl)
              simp only [Act.put, List.setIfInBounds_toArray, List.set_cons_zero, List.set_cons_succ]
              replace hCl := hCl'; clear hCl'
              refine T.qTake (i := 7) (d := (some 80)) (v := ?v5) rfl rfl (by kernel_rfl) (by decide) hCl (by kernel_rfl) (by kernel_rfl) (by kernel_rfl) (by rfl) ?hy5 (fun _ _ _ => trivial) (fun hCl' => ?_)
              case hy5 => (intro w hSw; refine T.qVal ?_ hSw; (have fF12 := F12.out w hSw; obtain ⟨z0, z1⟩ := HcR.out w (VW.trans (X3.trans hSw))); (try dsimp only [List.getElem_toArray, List.getElem_cons_succ, List.getElem_cons_zero]); go_simp; try with_reducible rfl)
              simp only [Act.put, List.setIfInBounds_toArray, List.set_cons_zero, List.set_cons_succ]
              replace hCl := hCl'; clear hCl'
              refine T.qTake (i := 8) (d := (some 81)) (v := ?v6) rfl rfl (by kernel_rfl) (by decide) hCl (by kernel_rfl) (by kernel_rfl) (by kernel_rfl) (by rfl) ?hy6 (fun _ _ _ => trivial) (fun hCl' => ?_)
              case hy6 => (intro w hSw; refine T.qVal ?_ hSw; (have fF12 := F12.out w hSw; obtain ⟨z0, z1⟩ := HcR.out w (VW.trans (X3.trans hSw))); (try dsimp only [List.getElem_toArray, List.getElem_cons_succ, List.getElem_cons_zero]); go_simp; try with_reducible rfl)
              simp only [Act.put, List.setIfInBounds_toArray, List.set_cons_zero, List.set_cons_succ]
              replace hCl := hCl'; clear hCl'
              refine T.qTake (i := 2) (d := (some 75)) (v := ?v7) rfl rfl (by kernel_rfl) (by decide) hCl (by kernel_rfl) (by kernel_rfl) (by kernel_rfl) (by rfl) ?hy7 (fun _ _ _ => trivial) (fun hCl' => ?_)
              case hy7 => (intro w hSw; refine T.qVal ?_ hSw; (have fF12 := F12.out w hSw; obtain ⟨z0, z1⟩ := HcR.out w (VW.trans (X3.trans hSw))); (try dsimp only [List.getElem_toArray, List.getElem_cons_succ, List.getElem_cons_zero]); go_simp; try with_reducible rfl)
              simp only [Act.put, List.setIfInBounds_toArray, List.set_cons_zero, List.set_cons_succ]
              replace hCl := hCl'; clear hCl'
              refine T.qTake (i := 9) (d := (some 82)) (v := ?v8) rfl rfl (by kernel_rfl) (by decide) hCl (by kernel_rfl) (by kernel_rfl) (by kernel_rfl) (by rfl) ?hy8 (fun _ _ _ => trivial) (fun hCl' => ?_)
              case hy8 => (intro w hSw; refine T.qVal ?_ hSw; (have fF12 := F12.out w hSw; obtain ⟨z0, z1⟩ := HcR.out w (VW.trans (X3.trans hSw))); (try dsimp only [List.getElem_toArray, List.getElem_cons_succ, List.getElem_cons_zero]); go_simp; try with_reducible rfl)
              simp only [Act.put, List.setIfInBounds_toArray, List.set_cons_zero, List.set_cons_succ]
              replace hCl := hCl'; clear hCl'
              refine T.qTake (i := 4) (d := (some 77)) (v := ?v9) rfl rfl (by kernel_rfl) (by decide) hCl (by kernel_rfl) (by kernel_rfl) (by kernel_rfl) (by rfl) ?hy9 (fun _ _ _ => trivial) (fun hCl' => ?_)
              case hy9 => (intro w hSw; refine T.qVal ?_ hSw; (have fF12 := F12.out w hSw; obtain ⟨z0, z1⟩ := HcR.out w (VW.trans (X3.trans hSw))); (try dsimp only [List.getElem_toArray, List.getElem_cons_succ, List.getElem_cons_zero]); go_simp; try with_reducible rfl)
              simp only [Act.put, List.setIfInBounds_toArray, List.set_cons_zero, List.set_cons_succ]
              replace hCl := hCl'; clear hCl'
              refine T.qTake (i := 10) (d := (some 83)) (v := ?v10) rfl rfl (by kernel_rfl) (by decide) hCl (by kernel_rfl) (by kernel_rfl) (by kernel_rfl) (by rfl) ?hy10 (fun _ _ _ => trivial) (fun hCl' => ?_)
              case hy10 => (intro w hSw; refine T.qVal ?_ hSw; (have fF12 := F12.out w hSw; obtain ⟨z0, z1⟩ := HcR.out w (VW.trans (X3.trans hSw))); (try dsimp only [List.getElem_toArray, List.getElem_cons_succ, List.getElem_cons_zero]); go_simp; try with_reducible rfl)
              simp only [Act.put, List.setIfInBounds_toArray, List.set_cons_zero, List.set_cons_succ]
              replace hCl := hCl'; clear hCl'
              refine T.qTake (i := 5) (d := (some 78)) (v := ?v11) rfl rfl (by kernel_rfl) (by decide) hCl (by kernel_rfl) (by kernel_rfl) (by kernel_rfl) (by rfl) ?hy11 (fun _ _ _ => trivial) (fun hCl' => ?_)
              case hy11 => (intro w hSw; refine T.qVal ?_ hSw; (have fF12 := F12.out w hSw; obtain ⟨z0, z1⟩ := HcR.out w (VW.trans (X3.trans hSw))); (try dsimp only [List.getElem_toArray, List.getElem_cons_succ, List.getElem_cons_zero]); go_simp; try with_reducible rfl)
              simp only [Act.put, List.setIfInBounds_toArray, List.set_cons_zero, List.set_cons_succ]
              replace hCl := hCl'; clear hCl'
              refine T.qTake (i := 11) (d := (some 84)) (v := ?v12) rfl rfl (by kernel_rfl) (by decide) hCl (by kernel_rfl) (by kernel_rfl) (by kernel_rfl) (by rfl) ?hy12 (fun _ _ _ => trivial) (fun hCl' => ?_)
              case hy12 => (intro w hSw; refine T.qVal ?_ hSw; (have fF12 := F12.out w hSw; obtain ⟨z0, z1⟩ := HcR.out w (VW.trans (X3.trans hSw))); (try dsimp only [List.getElem_toArray, List.getElem_cons_succ, List.getElem_cons_zero]); go_simp; try with_reducible rfl)
              simp only [Act.put, List.setIfInBounds_toArray, List.set_cons_zero, List.set_cons_succ]
              replace hCl := hCl'; clear hCl'
              refine T.qTake (i := 12) (d := (some 85)) (v := ((.int .i64 t1))) rfl rfl (by kernel_rfl) (by decide) hCl (by kernel_rfl) (by kernel_rfl) (by kernel_rfl) (by rfl) ?hy13 (fun _ _ _ => trivial) (fun hCl' => ?_)
              case hy13 => (intro w hSw; (have fF12 := F12.out w hSw; obtain ⟨z0, z1⟩ := HcR.out w (VW.trans (X3.trans hSw))); (try dsimp only [List.getElem_toArray, List.getElem_cons_succ, List.getElem_cons_zero]); go_simp; (refine (callsIn_wide.2 (HA1.out w (X3.trans hSw))).mono ?_; rintro e w3 ⟨rfl, rfl⟩; exact ⟨rfl, hSw⟩))
              simp only [Act.put, List.setIfInBounds_toArray, List.set_cons_zero, List.set_cons_succ]
              replace hCl := hCl'; clear hCl'
              refine T.qTake (i := 13) (d := (some 86)) (v := ((.int .i64 n1))) rfl rfl (by kernel_rfl) (by decide) hCl (by kernel_rfl) (by kernel_rfl) (by kernel_rfl) (by rfl) ?hy14 (fun _ _ _ => trivial) (fun hCl' => ?_)
              case hy14 => (intro w hSw; (have fF12 := F12.out w hSw; obtain ⟨z0, z1⟩ := HcR.out w (VW.trans (X3.trans hSw))); (try dsimp only [List.getElem_toArray, List.getElem_cons_succ, List.getElem_cons_zero]); go_simp; (refine (callsIn_wide.2 (HF1.out w)).mono ?_; rintro e w3 ⟨rfl, u3⟩; exact ⟨rfl, hSw.trans u3⟩))
              simp only [Act.put, List.setIfInBounds_toArray, List.set_cons_zero, List.set_cons_succ]
              replace hCl := hCl'; clear hCl'
              refine T.qTake (i := 14) (d := (some 87)) (v := ?v15) rfl rfl (by kernel_rfl) (by decide) hCl (by kernel_rfl) (by kernel_rfl) (by kernel_rfl) (by rfl) ?hy15 (fun _ _ _ => trivial) (fun hCl' => ?_)
              case hy15 => (intro w hSw; refine T.qVal ?_ hSw; (have fF12 := F12.out w hSw; obtain ⟨z0, z1⟩ := HcR.out w (VW.trans (X3.trans hSw))); (try dsimp only [List.getElem_toArray, List.getElem_cons_succ, List.getElem_cons_zero]); go_simp; try with_reducible rfl)
              simp only [Act.put, List.setIfInBounds_toArray, List.set_cons_zero, List.set_cons_succ]
              replace hCl := hCl'; clear hCl'
              refine T.tail_intro (by kernel_rfl) (fun Y11 hY11 => ?_)
              have UY := hY11
              replace X3 := X3.trans hY11
              replace kC := hY11.blk kC
              clear F12 hY11
              refine lastG (i := 15) (by kernel_rfl) rfl (by rfl) (by decide) (fun K hK => ?_)
              go_simp
              refine hK.out _ _ ?_
              clear hK K
              refine doneG (by kernel_rfl) ?_ _
              refine S.nrm_intro ?_
              have HRo2 := Lib.hid (row_up HRow.out (show Up wr Y11 from UY))
              clear HRow HA1 HF1 w1 w2 w3 w4 kC
              go_wp2_with fail
              clear UY
              go_loopw [11, 14] (fun nv i wr => ∃ (j : Nat) (m : Int), j ≤ os.length ∧ i = .int .i64 j ∧ nv = .int .i64 m ∧ Up Y11 wr ∧ Hid (T.In (T.gto rs (os.map T.cutO) k h j) (m - now))) (fun _ i _ => os.length - (intOf i).toNat)
              case atStart => exact ⟨0, now + n1, Nat.zero_le _, rfl, rfl, Up.refl _, Lib.hid (by rw [T.gto_zero]; show T.In (rs.getD (k : Int).toNat (0, 0)) _; rw [Int.toNat_natCast, HSS.out]; unfold T.In; simp only; omega)⟩
              case round =>
                obtain ⟨j, m, hj, rfl, rfl, X4, HG4⟩ := hrel
                have hg4 := HG4.out
                have hgc := T.gto_cut HG.out (k : Int) (h : Int) (show (k : Int).toNat < rs.length from hlt) j hj
                have hmb : -56000 ≤ m ∧ m ≤ 56000 := by unfold T.In at hg4; omega
                clear hg4 hgc
                by_cases hlt4 : j < os.length
                · skip
                  have d4 : decide ((j : Int) < (os.length : Int)) = true := decide_eq_true (by omega)
                  have ilt4 : (j : Int) < (os.length : Int) := by omega
                  have ej : IntKind.i64.wrap ((j : Int) + 1) = (j : Int) + 1 := IntWalk.i64_in _ (by omega)
                  have hjl : j < (os.map T.cutO).length := by rw [List.length_map]; exact hlt4
                  have stg := T.gto_succ (rs := rs) (os := os.map T.cutO) (k : Int) (h : Int) hjl
                  have IOx : Ops wr (.slice a os.length c) (os.map T.cutO) := Tab.of_row (HK.out _ (VW.trans (X3.trans X4))).2.2.2.2 (by decide) (by omega)
                  have kX := (HK.out _ (VW.trans (X3.trans X4))).2.2.1
                  obtain ⟨a', c', e', _, _, hm⟩ := IOx.is
                  injection e' with ea eb ec
                  clear eb ec
                  obtain ⟨g, off, ga, gl, hx⟩ := hm (by omega)
                  subst ea ga
                  clear hm
                  have hbo := HG.out.osB (os.getD j (0, 0, 0, 0)) (by rw [List.getD_eq_getElem?_getD, List.getElem?_eq_getElem hlt4]; exact List.getElem_mem _)
                  have ecu : (os.map T.cutO).getD j (0, 0, 0, 0) = T.cutO (os.getD j (0, 0, 0, 0)) := by
                    rw [List.getD_eq_getElem?_getD, List.getD_eq_getElem?_getD, List.getElem?_map, List.getElem?_eq_getElem hlt4]
                    rfl
                  have hcb : -500 ≤ (T.cutO (os.getD j (0, 0, 0, 0))).2.2.1 ∧ (T.cutO (os.getD j (0, 0, 0, 0))).2.2.1 ≤ (T.cutO (os.getD j (0, 0, 0, 0))).2.2.2 ∧ (T.cutO (os.getD j (0, 0, 0, 0))).2.2.2 ≤ 500 := ⟨(T.cut_bd _).1, T.cut_mono hbo.2.2.2, (T.cut_bd _).2⟩
                  rw [← ecu] at hcb
                  obtain ⟨⟨x0, x1, s0, s1⟩, hes⟩ : ∃ s, (os.map T.cutO).getD j (0, 0, 0, 0) = s := ⟨_, rfl⟩
                  have cc0 := hx j hjl 0 (by omega)
                  have cc1 := hx j hjl 1 (by omega)
                  have cc2 := hx j hjl 2 (by omega)
                  have cc3 := hx j hjl 3 (by omega)
                  rw [hes] at cc0 cc1 cc2 cc3 hcb stg
                  replace cc0 : wr.cell? ⟨g, off + j * 4, none⟩ = some (.int .i64 x0) := cc0
                  replace cc1 : wr.cell? ⟨g, off + j * 4 + 1, none⟩ = some (.int .i64 x1) := cc1
                  replace cc2 : wr.cell? ⟨g, off + j * 4 + 2, none⟩ = some (.int .i64 s0) := cc2
                  replace cc3 : wr.cell? ⟨g, off + j * 4 + 3, none⟩ = some (.int .i64 s1) := cc3
                  simp only at hcb
                  have HST := Lib.hid stg
                  clear hx hbo ecu hes stg IOx hjl
                  by_cases hc0 : x0 = (k : Int)
                  · skip
                    subst hc0
                    by_cases hc1 : x1 = (h : Int)
                    · skip
                      subst hc1
                      have w5 : IntKind.i64.wrap ((j : Int) + (h : Int)) = (j : Int) + (h : Int) := IntWalk.i64_in _ (by omega)
                      have w6 : IntKind.i64.wrap ((j : Int) + (h : Int) + 2) = (j : Int) + (h : Int) + 2 := IntWalk.i64_in _ (by omega)
                      obtain ⟨t2, ht2⟩ : ∃ z, S.at bits ((j : Int) + (h : Int) + 2) = z := ⟨_, rfl⟩
                      have HA2 := Lib.hid (fun w' (u : Up Y11 w') => show Calls Try.prog 65 #[vb, .int .i64 ((j : Int) + (h : Int) + 2)] w' fun e w'' => e = .returned (.int .i64 t2) ∧ w' = w'' by rw [← ht2]; exact B_At_any (HB.out _ (HK.out _ (VW.trans (X3.trans u))).2.2.2.1) _)
                      obtain ⟨n2, hn2⟩ : ∃ z, S.frm s0 s1 t2 = z := ⟨_, rfl⟩
                      have HF2 := Lib.hid (fun w' => show Calls Try.prog 64 #[SpV s0 s1, .int .i64 t2] w' fun e w'' => e = .returned (.int .i64 n2) ∧ Up w' w'' by rw [← hn2]; exact B_From_any _ _ _ _ (by omega) (by omega) (by omega) (by omega))
                      have hn2b := S.frm_in hcb.2.1 t2
                      rw [hn2] at hn2b
                      have w7 : IntKind.i64.wrap (m + n2) = m + n2 := IntWalk.i64_in _ (by omega)
                      have HcE := Lib.hid (fun w' (u : Up wr w') => And.intro (u.cell2 cc0) (And.intro (u.cell2 cc1) (And.intro (u.cell2 cc2) (u.cell2 cc3))))
                      clear ht2 hn2
                      go_wp2_with fail
                      clear cc0 cc1 cc2 cc3
                      have F32 := Lib.hid (fun w (u : Up wr w) => cellB (u.blk kX))
                      refine (wpIn_wide (n := 5)).1 ?_
                      refine wpIn_nrm ?_
                      refine T.regionQ (fun w' => Up wr w') 15 1 hmx (by kernel_rfl) (by kernel_rfl) ((Up.refl wr).drew) (fun hCl => ?_)
                      refine T.qTake (i := 0) (d := (some 113)) (v := ?v16) rfl rfl (by kernel_rfl) (by decide) hCl (by kernel_rfl) (by kernel_rfl) (by kernel_rfl) (by rfl) ?hy16 (fun _ _ _ => trivial) (fun hCl' => ?_)
                      case hy16 => (intro w hSw; refine T.qVal ?_ hSw; (have fF32 := F32.out w hSw; obtain ⟨z0, z1, z2, z3⟩ := HcE.out w hSw); (try dsimp only [List.getElem_toArray, List.getElem_cons_succ, List.getElem_cons_zero]); go_simp; try with_reducible rfl)
                      simp only [Act.put, List.setIfInBounds_toArray, List.set_cons_zero, List.set_cons_succ]
                      replace hCl := hCl'; clear hCl'
                      refine T.qTake (i := 1) (d := (some 114)) (v := ?v17) rfl rfl (by kernel_rfl) (by decide) hCl (by kernel_rfl) (by kernel_rfl) (by kernel_rfl) (by rfl) ?hy17 (fun _ _ _ => trivial) (fun hCl' => ?_)
                      case hy17 => (intro w hSw; refine T.qVal ?_ hSw; (have fF32 := F32.out w hSw; obtain ⟨z0, z1, z2, z3⟩ := HcE.out w hSw); (try dsimp only [List.getElem_toArray, List.getElem_cons_succ, List.getElem_cons_zero]); go_simp; try with_reducible rfl)
                      simp only [Act.put, List.setIfInBounds_toArray, List.set_cons_zero, List.set_cons_succ]
                      replace hCl := hCl'; clear hCl'
                      refine T.qTake (i := 3) (d := (some 116)) (v := ?v18) rfl rfl (by kernel_rfl) (by decide) hCl (by kernel_rfl) (by kernel_rfl) (by kernel_rfl) (by rfl) ?hy18 (fun _ _ _ => trivial) (fun hCl' => ?_)
                      case hy18 => (intro w hSw; refine T.qVal ?_ hSw; (have fF32 := F32.out w hSw; obtain ⟨z0, z1, z2, z3⟩ := HcE.out w hSw); (try dsimp only [List.getElem_toArray, List.getElem_cons_succ, List.getElem_cons_zero]); go_simp; try with_reducible rfl)
                      simp only [Act.put, List.setIfInBounds_toArray, List.set_cons_zero, List.set_cons_succ]
                      replace hCl := hCl'; clear hCl'
                      refine T.qTake (i := 7) (d := (some 120)) (v := ?v19) rfl rfl (by kernel_rfl) (by decide) hCl (by kernel_rfl) (by kernel_rfl) (by kernel_rfl) (by rfl) ?hy19 (fun _ _ _ => trivial) (fun hCl' => ?_)
                      case hy19 => (intro w hSw; refine T.qVal ?_ hSw; (have fF32 := F32.out w hSw; obtain ⟨z0, z1, z2, z3⟩ := HcE.out w hSw); (try dsimp only [List.getElem_toArray, List.getElem_cons_succ, List.getElem_cons_zero]); go_simp; try with_reducible rfl)
                      simp only [Act.put, List.setIfInBounds_toArray, List.set_cons_zero, List.set_cons_succ]
                      replace hCl := hCl'; clear hCl'
                      refine T.qTake (i := 8) (d := (some 121)) (v := ?v20) rfl rfl (by kernel_rfl) (by decide) hCl (by kernel_rfl) (by kernel_rfl) (by kernel_rfl) (by rfl) ?hy20 (fun _ _ _ => trivial) (fun hCl' => ?_)
                      case hy20 => (intro w hSw; refine T.qVal ?_ hSw; (have fF32 := F32.out w hSw; obtain ⟨z0, z1, z2, z3⟩ := HcE.out w hSw); (try dsimp only [List.getElem_toArray, List.getElem_cons_succ, List.getElem_cons_zero]); go_simp; try with_reducible rfl)
                      simp only [Act.put, List.setIfInBounds_toArray, List.set_cons_zero, List.set_cons_succ]
                      replace hCl := hCl'; clear hCl'
                      refine T.qTake (i := 9) (d := (some 122)) (v := ?v21) rfl rfl (by kernel_rfl) (by decide) hCl (by kernel_rfl) (by kernel_rfl) (by kernel_rfl) (by rfl) ?hy21 (fun _ _ _ => trivial) (fun hCl' => ?_)
                      case hy21 => (intro w hSw; refine T.qVal ?_ hSw; (have fF32 := F32.out w hSw; obtain ⟨z0, z1, z2, z3⟩ := HcE.out w hSw); (try dsimp only [List.getElem_toArray, List.getElem_cons_succ, List.getElem_cons_zero]); go_simp; try with_reducible rfl)
                      simp only [Act.put, List.setIfInBounds_toArray, List.set_cons_zero, List.set_cons_succ]
                      replace hCl := hCl'; clear hCl'
                      refine T.qTake (i := 2) (d := (some 115)) (v := ?v22) rfl rfl (by kernel_rfl) (by decide) hCl (by kernel_rfl) (by kernel_rfl) (by kernel_rfl) (by rfl) ?hy22 (fun _ _ _ => trivial) (fun hCl' => ?_)
                      case hy22 => (intro w hSw; refine T.qVal ?_ hSw; (have fF32 := F32.out w hSw; obtain ⟨z0, z1, z2, z3⟩ := HcE.out w hSw); (try dsimp only [List.getElem_toArray, List.getElem_cons_succ, List.getElem_cons_zero]); go_simp; try with_reducible rfl)
                      simp only [Act.put, List.setIfInBounds_toArray, List.set_cons_zero, List.set_cons_succ]
                      replace hCl := hCl'; clear hCl'
                      refine T.qTake (i := 10) (d := (some 123)) (v := ?v23) rfl rfl (by kernel_rfl) (by decide) hCl (by kernel_rfl) (by kernel_rfl) (by kernel_rfl) (by rfl) ?hy23 (fun _ _ _ => trivial) (fun hCl' => ?_)
                      case hy23 => (intro w hSw; refine T.qVal ?_ hSw; (have fF32 := F32.out w hSw; obtain ⟨z0, z1, z2, z3⟩ := HcE.out w hSw); (try dsimp only [List.getElem_toArray, List.getElem_cons_succ, List.getElem_cons_zero]); go_simp; try with_reducible rfl)
                      simp only [Act.put, List.setIfInBounds_toArray, List.set_cons_zero, List.set_cons_succ]
                      replace hCl := hCl'; clear hCl'
                      refine T.qTake (i := 4) (d := (some 117)) (v := ?v24) rfl rfl (by kernel_rfl) (by decide) hCl (by kernel_rfl) (by kernel_rfl) (by kernel_rfl) (by rfl) ?hy24 (fun _ _ _ => trivial) (fun hCl' => ?_)
                      case hy24 => (intro w hSw; refine T.qVal ?_ hSw; (have fF32 := F32.out w hSw; obtain ⟨z0, z1, z2, z3⟩ := HcE.out w hSw); (try dsimp only [List.getElem_toArray, List.getElem_cons_succ, List.getElem_cons_zero]); go_simp; try with_reducible rfl)
                      simp only [Act.put, List.setIfInBounds_toArray, List.set_cons_zero, List.set_cons_succ]
                      replace hCl := hCl'; clear hCl'
                      refine T.qTake (i := 11) (d := (some 124)) (v := ?v25) rfl rfl (by kernel_rfl) (by decide) hCl (by kernel_rfl) (by kernel_rfl) (by kernel_rfl) (by rfl) ?hy25 (fun _ _ _ => trivial) (fun hCl' => ?_)
                      case hy25 => (intro w hSw; refine T.qVal ?_ hSw; (have fF32 := F32.out w hSw; obtain ⟨z0, z1, z2, z3⟩ := HcE.out w hSw); (try dsimp only [List.getElem_toArray, List.getElem_cons_succ, List.getElem_cons_zero]); go_simp; try with_reducible rfl)
                      simp only [Act.put, List.setIfInBounds_toArray, List.set_cons_zero, List.set_cons_succ]
                      replace hCl := hCl'; clear hCl'
                      refine T.qTake (i := 5) (d := (some 118)) (v := ?v26) rfl rfl (by kernel_rfl) (by decide) hCl (by kernel_rfl) (by kernel_rfl) (by kernel_rfl) (by rfl) ?hy26 (fun _ _ _ => trivial) (fun hCl' => ?_)
                      case hy26 => (intro w hSw; refine T.qVal ?_ hSw; (have fF32 := F32.out w hSw; obtain ⟨z0, z1, z2, z3⟩ := HcE.out w hSw); (try dsimp only [List.getElem_toArray, List.getElem_cons_succ, List.getElem_cons_zero]); go_simp; try with_reducible rfl)
                      simp only [Act.put, List.setIfInBounds_toArray, List.set_cons_zero, List.set_cons_succ]
                      replace hCl := hCl'; clear hCl'
                      refine T.qTake (i := 6) (d := (some 119)) (v := ?v27) rfl rfl (by kernel_rfl) (by decide) hCl (by kernel_rfl) (by kernel_rfl) (by kernel_rfl) (by rfl) ?hy27 (fun _ _ _ => trivial) (fun hCl' => ?_)
                      case hy27 => (intro w hSw; refine T.qVal ?_ hSw; (have fF32 := F32.out w hSw; obtain ⟨z0, z1, z2, z3⟩ := HcE.out w hSw); (try dsimp only [List.getElem_toArray, List.getElem_cons_succ, List.getElem_cons_zero]); go_simp; try with_reducible rfl)
                      simp only [Act.put, List.setIfInBounds_toArray, List.set_cons_zero, List.set_cons_succ]
                      replace hCl := hCl'; clear hCl'
                      refine T.qTake (i := 12) (d := (some 125)) (v := ((.int .i64 t2))) rfl rfl (by kernel_rfl) (by decide) hCl (by kernel_rfl) (by kernel_rfl) (by kernel_rfl) (by rfl) ?hy28 (fun _ _ _ => trivial) (fun hCl' => ?_)
                      case hy28 => (intro w hSw; (have fF32 := F32.out w hSw; obtain ⟨z0, z1, z2, z3⟩ := HcE.out w hSw); (try dsimp only [List.getElem_toArray, List.getElem_cons_succ, List.getElem_cons_zero]); go_simp; (refine (callsIn_wide.2 (HA2.out w (X4.trans hSw))).mono ?_; rintro e w3 ⟨rfl, rfl⟩; exact ⟨rfl, hSw⟩))
                      simp only [Act.put, List.setIfInBounds_toArray, List.set_cons_zero, List.set_cons_succ]
                      replace hCl := hCl'; clear hCl'
                      refine T.qTake (i := 13) (d := (some 126)) (v := ((.int .i64 n2))) rfl rfl (by kernel_rfl) (by decide) hCl (by kernel_rfl) (by kernel_rfl) (by kernel_rfl) (by rfl) ?hy29 (fun _ _ _ => trivial) (fun hCl' => ?_)
                      case hy29 => (intro w hSw; (have fF32 := F32.out w hSw; obtain ⟨z0, z1, z2, z3⟩ := HcE.out w hSw); (try dsimp only [List.getElem_toArray, List.getElem_cons_succ, List.getElem_cons_zero]); go_simp; (refine (callsIn_wide.2 (HF2.out w)).mono ?_; rintro e w3 ⟨rfl, u3⟩; exact ⟨rfl, hSw.trans u3⟩))
                      simp only [Act.put, List.setIfInBounds_toArray, List.set_cons_zero, List.set_cons_succ]
                      replace hCl := hCl'; clear hCl'
                      refine T.qTake (i := 14) (d := (some 127)) (v := ?v30) rfl rfl (by kernel_rfl) (by decide) hCl (by kernel_rfl) (by kernel_rfl) (by kernel_rfl) (by rfl) ?hy30 (fun _ _ _ => trivial) (fun hCl' => ?_)
                      case hy30 => (intro w hSw; refine T.qVal ?_ hSw; (have fF32 := F32.out w hSw; obtain ⟨z0, z1, z2, z3⟩ := HcE.out w hSw); (try dsimp only [List.getElem_toArray, List.getElem_cons_succ, List.getElem_cons_zero]); go_simp; try with_reducible rfl)
                      simp only [Act.put, List.setIfInBounds_toArray, List.set_cons_zero, List.set_cons_succ]
                      replace hCl := hCl'; clear hCl'
                      refine T.tail_intro (by kernel_rfl) (fun Y31 hY31 => ?_)
                      replace X4 := X4.trans hY31
                      replace kX := hY31.blk kX
                      clear F32 hY31
                      refine lastG (i := 15) (by kernel_rfl) rfl (by rfl) (by decide) (fun K hK => ?_)
                      go_simp
                      refine hK.out _ _ ?_
                      clear hK K
                      refine doneG (by kernel_rfl) ?_ _
                      refine S.nrm_intro ?_
                      have hnx : Hid (T.In (T.gto rs (os.map T.cutO) (k : Int) (h : Int) (j + 1)) (m + n2 - now)) := Lib.hid (by
                        have q := HG4.out
                        rw [HST.out]
                        unfold T.plus
                        rw [if_pos ⟨rfl, rfl⟩]
                        unfold T.In at q ⊢
                        simp only
                        omega)
                      go_wp2_with fail
                      go_roundw
                      case rel => exact ⟨j + 1, m + n2, by omega, by go_num, rfl, X4, hnx⟩
                      case measure => (simp only [intOf]; omega)
                    · skip
                      have f0 : (x1 == (h : Int)) = false := by simpa using hc1
                      go_wp2_with fail
                      have hnx : Hid (T.In (T.gto rs (os.map T.cutO) (k : Int) (h : Int) (j + 1)) (m - now)) := Lib.hid (by
                        rw [HST.out]
                        unfold T.plus
                        rw [if_neg (fun q => hc1 q.2)]
                        exact HG4.out)
                      go_roundw
                      case rel => exact ⟨j + 1, m, by omega, by go_num, rfl, X4, hnx⟩
                      case measure => (simp only [intOf]; omega)
                  · skip
                    have f0 : (x0 == (k : Int)) = false := by simpa using hc0
                    go_wp2_with fail
                    have hnx : Hid (T.In (T.gto rs (os.map T.cutO) (k : Int) (h : Int) (j + 1)) (m - now)) := Lib.hid (by
                      rw [HST.out]
                      unfold T.plus
                      rw [if_neg (fun q => hc0 q.1)]
                      exact HG4.out)
                    go_roundw
                    case rel => exact ⟨j + 1, m, by omega, by go_num, rfl, X4, hnx⟩
                    case measure => (simp only [intOf]; omega)
                · skip
                  obtain rfl : j = os.length := by omega
                  have d4 : decide ((os.length : Int) < (os.length : Int)) = false := decide_eq_false (by omega)
                  have hsn := HL.out.1.snoc (n := m) (by
                    have q := HG4.out
                    rw [HL.out.2]
                    have e := T.gto_all (rs := rs) (os := os.map T.cutO) (k : Int) (h : Int)
                    rw [List.length_map] at e
                    rwa [e] at q)
                  have HSN := Lib.hid hsn
                  have X5 := X3.trans X4
                  have own0 := (row_up HRo2.out X4).alloc (.cells #[.int .i64 m] 3)
                  have U1 := X5.alloc (.cells #[.int .i64 m] 3)
                  have hb1 : bk ≤ wr.heap.size := by rw [← hbk]; exact X5.size
                  obtain ⟨i0, hi, hz0, hz1, hz2⟩ := info_parts Try.infoInt
                  have hU := Try.underlying44
                  clear hsn
                  have kX := (HK.out _ (VW.trans X5)).2.2.1
                  go_wp2_with (at_builtin; refine wpList_append_own _ rfl (.tmp 128) (.tmp 130) 44 rfl bk 3 i0 (.int .i64 0) 1 8 hU hi hz0 hz1 hz2 rfl (by decide) _ (h + 1) _ rfl own0 ⟨wr.heap.size, 0, none⟩ 1 1 [.int .i64 m] rfl rfl (cell_one_new _ _ _) (by simp [Value.oneCell']) (by unfold maxLen; omega) (by omega) (by simp; omega) ?_; intro v' w6 hown6 hgrow6 hv6)
                  have U6 : Up Wk w6 := U1.grown hgrow6 (fun b e => by have := row_base own0 b e; omega)
                  have HRo3 := Lib.hid (show w6.ownsRow bk 3 1 v' (h + 1 + 1) ((L ++ [m]).map (Value.int .i64)) by rw [List.map_append]; exact hown6)
                  clear own0 hown6 hgrow6 hv6 U1 hU hi hz0 hz1 hz2
                  go_roundw
                  case rel => exact ⟨h + 1, L ++ [m], m, by omega, by go_num, rfl, U6, HRo3, HSN⟩
                  case measure => (simp only [intOf]; omega)
            · skip
              obtain rfl : h = H := by omega
              have d3 : decide ((h : Int) < (h : Int)) = false := decide_eq_false (by omega)
              have VX := VW.trans X3
              have HO4 := Lib.hid (row_up HOu2.out X3)
              have HR3 := Lib.hid (And.intro (HR2.out.1.up X3) HR2.out.2)
              have hown := HRow.out
              rcases hown.2 with ⟨_, hn⟩ | ⟨g, cap, cur, rfl, hg, hcu, hnc, hcm, hcz, hcc⟩
              · omega
              have hgs := blk_lt hcu
              have hrl := HL.out.1.len
              have HC := Lib.hid (fun (j : Nat) (hj : j ≤ h) => show cur[j]? = some (.int .i64 (L.getD j 0)) by
                have h1 : cur.toList[j]? = (cur.toList.take ((h + 1) * 1))[j]? := by rw [List.getElem?_take, if_pos (by omega)]
                rw [← Array.getElem?_toList, h1, hcc, List.getElem?_map, List.getElem?_eq_getElem (by omega), List.getD_eq_getElem?_getD, List.getElem?_eq_getElem (by omega)]
                rfl)
              have HCU := Lib.hid hcu
              have own0 := HO4.out.alloc (.cells #[.slice (some ⟨g, 0, none⟩) (h + 1) cap] 44)
              have U1 := VX.alloc (.cells #[.slice (some ⟨g, 0, none⟩) (h + 1) cap] 44)
              have hb1 : b2 ≤ wr.heap.size := by rw [← hb2]; exact VX.size
              obtain ⟨i0, hi, hz0, hz1, hz2⟩ := info_parts infoInts
              have hU := Try.underlying27
              clear hown hcu hcc HRow
              have kC := (HK.out _ VX).1
              go_wp2_with (at_builtin; refine wpList_append_own _ rfl (.tmp 132) (.tmp 134) 27 rfl b2 44 i0 (.slice none 0 0) 1 24 hU hi hz0 hz1 hz2 rfl (by decide) _ k us rfl own0 ⟨wr.heap.size, 0, none⟩ 1 1 [.slice (some ⟨g, 0, none⟩) (h + 1) cap] rfl rfl (cell_one_new _ _ _) (by simp [Value.oneCell']) (by unfold maxLen; omega) (by omega) (by simp; omega) ?_; intro v' w6 hown6 hgrow6 hv6)
              have U6 : Up W2 w6 := U1.grown hgrow6 (fun b e => by have := row_base own0 b e; omega)
              have kk : ∀ b cs, mblk wr b = some (.cells cs 3 (0, 0)) → mblk w6 b = some (.cells cs 3 (0, 0)) := fun b cs q => grown_blk hgrow6 (blk_keep _ q) (row_ne own0 (blk_keep _ q) (fun cs e => by cases e))
              have hsz : wr.heap.size ≤ w6.heap.size := by have := hgrow6.size; rw [sz1] at this; omega
              have HO5 := Lib.hid (show w6.ownsRow b2 44 1 v' (k + 1) (us ++ [.slice (some ⟨g, 0, none⟩) (h + 1) cap]) from hown6)
              have HR4 : Hid (T.Mrs w6 (us ++ [.slice (some ⟨g, 0, none⟩) (h + 1) cap]) (rows ++ [L]) h (k + 1) w6.heap.size ∧ ∀ i, i < k + 1 → T.Rw rs (os.map T.cutO) i h ((rows ++ [L]).getD i [])) := Lib.hid (by
                obtain ⟨A1, A2⟩ := HR3.out
                have hl := A1.2.1
                refine ⟨(A1.keep (b' := w6.heap.size) (by have := X3.size; omega) (fun g cs _ q => kk g cs q)).add hnc (by omega) (kk g cur HCU.out) HL.out.1.len (HC.out), fun i hi => ?_⟩
                by_cases e : i < k
                · rw [List.getD_eq_getElem?_getD, List.getElem?_append_left (by omega), ← List.getD_eq_getElem?_getD]
                  exact A2 i e
                · obtain rfl : i = k := by omega
                  rw [List.getD_eq_getElem?_getD, List.getElem?_append_right (by omega), hl, Nat.sub_self]
                  exact HL.out.1)
              clear own0 hown6 hgrow6 hv6 U1 hU hi hz0 hz1 hz2 kk
              go_roundw
              case rel => exact ⟨k + 1, _, _, by omega, by go_num, U6, HO5, HR4⟩
              case measure => (simp only [intOf]; omega)
        · skip
          obtain rfl : k = rs.length := by omega
          have d1 : decide ((rs.length : Int) < (rs.length : Int)) = false := decide_eq_false (by omega)
          obtain ⟨W5, hW5⟩ : ∃ z, z = wr := ⟨_, rfl⟩
          subst hW5
          have hown := HOut.out
          rcases hown.2 with ⟨_, hn⟩ | ⟨go, co, cur, rfl, hg, hcu, hnc, hcm, hcz, hcc⟩
          · omega
          obtain ⟨b5, hb5⟩ : ∃ x, W5.heap.size = x := ⟨_, rfl⟩
          obtain ⟨kC, kZ, kX, U, ownA⟩ := HK.out _ V
          have lX5 := V.size
          rw [hb5, hb2] at lX5
          have HA := Lib.hid ownA
          have hus := HR.out.1.1
          have HCO := Lib.hid (And.intro hcu (fun (j : Nat) (hj : j < rs.length) => show cur[j]? = us[j]? by
            have h1 : cur.toList[j]? = (cur.toList.take (rs.length * 1))[j]? := by rw [List.getElem?_take, if_pos (by omega)]
            rw [← Array.getElem?_toList, h1, hcc]))
          clear hown hcu hcc ownA
          go_wp2_with fail
          go_loopw [15] (fun i wr => ∃ (j n : Nat) (a3 : Option Addr) (c3 : Nat) (xs : T.LP), j ≤ ps.length ∧ i = .int .i64 j ∧ Hid (wr.ownsRow b5 61 5 (.slice a3 n c3) n (T.flat 5 T.encP xs)) ∧ Hid (∀ x ∈ xs, T.PrOk H rs.length (T.dof rows) x) ∧ Hid (xs.length = n) ∧ n ≤ j ∧ Hid (T.But (q0 + 1 + 1) W5 wr) ∧ b5 ≤ wr.heap.size ∧ Up w wr ∧ mblk wr q0 = some (.cells #[.int .i64 H, .slice (some ⟨gR, oR, none⟩) rs.length cR, .slice aO os.length cO, .slice aP ps.length cP] 26 (0, 0)) ∧ mblk wr (q0 + 1) = some (.cells #[.int .i64 0, .slice none 0 0, .slice none 0 0, .slice none 0 0] 26 (0, 0)) ∧ mblk wr (q0 + 1 + 1) = some (.cells #[.int .i64 H, .slice (some ⟨gR, oR, none⟩) rs.length cR, .slice a os.length c, .slice a3 n c3] 26 (0, 0))) (fun i _ => ps.length - (intOf i).toNat)
          case atStart => exact ⟨0, 0, none, 0, [], Nat.zero_le _, rfl, Lib.hid ⟨rfl, .inl ⟨rfl, rfl⟩⟩, Lib.hid (fun x hx => by cases hx), Lib.hid rfl, Nat.le_refl _, Lib.hid (T.But.refl _ _), by omega, U, kC, kZ, kX⟩
          case round =>
            clear U kC kZ kX
            obtain ⟨j, n, a3, c3, xs, hj, rfl, HO1, HPX, HXL, hnj, HBu, hb0, U, kC, kZ, kX⟩ := hrel
            by_cases hlt : j < ps.length
            · skip
              have ew : IntKind.i64.wrap ((j : Int) + 1) = (j : Int) + 1 := IntWalk.i64_in _ (by omega)
              have dk : decide ((j : Int) < (ps.length : Int)) = true := decide_eq_true (by omega)
              have ilt : (j : Int) < (ps.length : Int) := by omega
              have hbp := HG.out.psB (ps.getD j (0, 0, 0, 0, 0)) (by rw [List.getD_eq_getElem?_getD, List.getElem?_eq_getElem hlt]; exact List.getElem_mem _)
              obtain ⟨a', c', e', _, _, hm⟩ := (HP.out _ U).is
              injection e' with ea eb ec
              clear eb ec
              obtain ⟨g, off, ga, gl, hx⟩ := hm (by omega)
              subst ea ga
              clear hm
              obtain ⟨⟨r0, r1, r2, r3, r4⟩, hss⟩ : ∃ s, ps.getD j (0, 0, 0, 0, 0) = s := ⟨_, rfl⟩
              have cc0 := hx j hlt 0 (by omega)
              have cc1 := hx j hlt 1 (by omega)
              have cc2 := hx j hlt 2 (by omega)
              have cc3 := hx j hlt 3 (by omega)
              have cc4 := hx j hlt 4 (by omega)
              rw [hss] at cc0 cc1 cc2 cc3 cc4
              replace cc0 : wr.cell? ⟨g, off + j * 5, none⟩ = some (.int .i64 r0) := cc0
              replace cc1 : wr.cell? ⟨g, off + j * 5 + 1, none⟩ = some (.int .i64 r1) := cc1
              replace cc2 : wr.cell? ⟨g, off + j * 5 + 2, none⟩ = some (.int .i64 r2) := cc2
              replace cc3 : wr.cell? ⟨g, off + j * 5 + 3, none⟩ = some (.int .i64 r3) := cc3
              replace cc4 : wr.cell? ⟨g, off + j * 5 + 4, none⟩ = some (.int .i64 r4) := cc4
              clear hx
              rw [hss] at hbp
              obtain ⟨⟨p1, p2⟩, ⟨p3, p4⟩, ⟨p5, p6⟩, p7, ⟨⟨p8, p9⟩, p10, p11⟩, p12⟩ := hbp
              simp only at p1 p2 p3 p4 p5 p6 p7 p8 p9 p10 p11 p12
              obtain ⟨r0, rfl⟩ := Int.eq_ofNat_of_zero_le p1
              obtain ⟨r1, rfl⟩ := Int.eq_ofNat_of_zero_le p3
              have hlt2 := fun g e => (HO1.out.lt g e).2
              have key : ∀ (c h : Nat), c < rs.length → h ≤ H → ∃ (gc cp : Nat), Hid (∀ w' : World, Up wr w' → w'.cell? ⟨go, c, none⟩ = some (.slice (some ⟨gc, 0, none⟩) (H + 1) cp) ∧ w'.cell? ⟨gc, h, none⟩ = some (.int .i64 (T.dof rows ((c : Int), (h : Int))))) ∧ (-50000 ≤ T.dof rows ((c : Int), (h : Int)) ∧ T.dof rows ((c : Int), (h : Int)) ≤ 50000) := fun c h hc hh => by
                obtain ⟨A1, A2⟩ := HR.out
                obtain ⟨gc, cs, cp, h1, h2, h3, h4, h5, h6⟩ := A1.2.2 c hc
                have q := (A2 c hc).bd HG.out hc h hh
                refine ⟨gc, cp, Lib.hid (fun w' u => ⟨?_, ?_⟩), ?_⟩
                · have k1 := u.blk (HBu.out.blk go _ (by omega) HCO.out.1)
                  rw [cellB k1, HCO.out.2 c hc, h1]
                · have hne : gc ≠ q0 + 1 + 1 := fun e => by
                    have := (HK.out _ V).2.2.1
                    rw [← e, h4] at this
                    cases this
                  have k1 := u.blk (HBu.out.blk gc _ hne h4)
                  rw [cellB k1, h6 h hh, T.dof_at]
                · rw [T.dof_at]
                  have := q2
                  omega
              obtain ⟨g1, cp1, HN1, hn1⟩ := key r1 r0 (by omega) (by omega)
              have HSS := Lib.hid hss
              clear hss
              have e5 : wr.heap.size = wr.heap.size := rfl
              clear e5
              have HNk := Lib.hid key
              clear key
              have UU := (Up.refl wr).alloc (.cells #[.int .i64 r0, .int .i64 r1, .int .i64 r2, .int .i64 r3, .int .i64 r4] 61)
              have i_kC := kC
              have l_kC := blk_lt kC
              have i_kZ := kZ
              have l_kZ := blk_lt kZ
              have i_kX := kX
              have l_kX := blk_lt kX
              have kp := blk_new wr (.cells #[.int .i64 r0, .int .i64 r1, .int .i64 r2, .int .i64 r3, .int .i64 r4] 61) _ rfl
              replace kC := blk_keep (.cells #[.int .i64 r0, .int .i64 r1, .int .i64 r2, .int .i64 r3, .int .i64 r4] 61) kC
              replace kZ := blk_keep (.cells #[.int .i64 r0, .int .i64 r1, .int .i64 r2, .int .i64 r3, .int .i64 r4] 61) kZ
              replace kX := blk_keep (.cells #[.int .i64 r0, .int .i64 r1, .int .i64 r2, .int .i64 r3, .int .i64 r4] 61) kX
              replace U := U.alloc (.cells #[.int .i64 r0, .int .i64 r1, .int .i64 r2, .int .i64 r3, .int .i64 r4] 61)
              have n_HO1 := Lib.hid (HO1.out.alloc (.cells #[.int .i64 r0, .int .i64 r1, .int .i64 r2, .int .i64 r3, .int .i64 r4] 61))
              clear HO1
              obtain ⟨pkp, hpkp⟩ : ∃ z, wr.heap.size = z := ⟨_, rfl⟩
              obtain ⟨W1, hW1⟩ : ∃ z, wr.alloc (.cells #[.int .i64 r0, .int .i64 r1, .int .i64 r2, .int .i64 r3, .int .i64 r4] 61) = z := ⟨_, rfl⟩
              rw [hpkp] at kp l_kC l_kZ l_kX
              rw [hW1] at kp U kC kZ kX n_HO1
              rw [hW1] at UU
              rw [hpkp] at hlt2 hb0
              obtain ⟨y1, hy1⟩ : ∃ z, T.dof rows ((r1 : Int), (r0 : Int)) = z := ⟨_, rfl⟩
              rw [hy1] at HN1 hn1
              have HY1 := Lib.hid hy1
              have ir1 : (r1 : Int) < (rs.length : Int) := by omega
              have ir0 : (r0 : Int) < (H : Int) + 1 := by omega
              clear hy1
              go_wp2_with fail
              clear hpkp hW1 i_kC i_kZ i_kX cc0 cc1 cc2 cc3
              have F3 := Lib.hid (fun w (u : Up W1 w) => cellB (u.blk kC))
              have F4 := Lib.hid (fun w (u : Up W1 w) => cellB (u.blk kZ))
              have F5 := Lib.hid (fun w (u : Up W1 w) => cellB (u.blk kX))
              have F6 := Lib.hid (fun w (u : Up W1 w) => cellB (u.blk kp))
              refine (wpIn_wide (n := 5)).1 ?_
              refine wpIn_nrm ?_
              refine T.regionQ (fun w' => Up W1 w') 9 1 hmx (by kernel_rfl) (by kernel_rfl) ((Up.refl W1).drew) (fun hCl => ?_)
              refine T.qTake (i := 0) (d := (some 148)) (v := ?v31) rfl rfl (by kernel_rfl) (by decide) hCl (by kernel_rfl) (by kernel_rfl) (by kernel_rfl) (by rfl) ?hy31 (fun _ _ _ => trivial) (fun hCl' => ?_)
              case hy31 => (intro w hSw; refine T.qVal ?_ hSw; (have fF3 := F3.out w hSw; have fF4 := F4.out w hSw; have fF5 := F5.out w hSw; have fF6 := F6.out w hSw; obtain ⟨z0, z1⟩ := HN1.out w (UU.trans hSw)); (try dsimp only [List.getElem_toArray, List.getElem_cons_succ, List.getElem_cons_zero]); go_simp; try with_reducible rfl)
              simp only [Act.put, List.setIfInBounds_toArray, List.set_cons_zero, List.set_cons_succ]
              replace hCl := hCl'; clear hCl'
              refine T.qTake (i := 1) (d := (some 149)) (v := ?v32) rfl rfl (by kernel_rfl) (by decide) hCl (by kernel_rfl) (by kernel_rfl) (by kernel_rfl) (by rfl) ?hy32 (fun _ _ _ => trivial) (fun hCl' => ?_)
              case hy32 => (intro w hSw; refine T.qVal ?_ hSw; (have fF3 := F3.out w hSw; have fF4 := F4.out w hSw; have fF5 := F5.out w hSw; have fF6 := F6.out w hSw; obtain ⟨z0, z1⟩ := HN1.out w (UU.trans hSw)); (try dsimp only [List.getElem_toArray, List.getElem_cons_succ, List.getElem_cons_zero]); go_simp; try with_reducible rfl)
              simp only [Act.put, List.setIfInBounds_toArray, List.set_cons_zero, List.set_cons_succ]
              replace hCl := hCl'; clear hCl'
              refine T.qTake (i := 5) (d := (some 153)) (v := ?v33) rfl rfl (by kernel_rfl) (by decide) hCl (by kernel_rfl) (by kernel_rfl) (by kernel_rfl) (by rfl) ?hy33 (fun _ _ _ => trivial) (fun hCl' => ?_)
              case hy33 => (intro w hSw; refine T.qVal ?_ hSw; (have fF3 := F3.out w hSw; have fF4 := F4.out w hSw; have fF5 := F5.out w hSw; have fF6 := F6.out w hSw; obtain ⟨z0, z1⟩ := HN1.out w (UU.trans hSw)); (try dsimp only [List.getElem_toArray, List.getElem_cons_succ, List.getElem_cons_zero]); go_simp; try with_reducible rfl)
              simp only [Act.put, List.setIfInBounds_toArray, List.set_cons_zero, List.set_cons_succ]
              replace hCl := hCl'; clear hCl'
              refine T.qTake (i := 2) (d := (some 150)) (v := ?v34) rfl rfl (by kernel_rfl) (by decide) hCl (by kernel_rfl) (by kernel_rfl) (by kernel_rfl) (by rfl) ?hy34 (fun _ _ _ => trivial) (fun hCl' => ?_)
              case hy34 => (intro w hSw; refine T.qVal ?_ hSw; (have fF3 := F3.out w hSw; have fF4 := F4.out w hSw; have fF5 := F5.out w hSw; have fF6 := F6.out w hSw; obtain ⟨z0, z1⟩ := HN1.out w (UU.trans hSw)); (try dsimp only [List.getElem_toArray, List.getElem_cons_succ, List.getElem_cons_zero]); go_simp; try with_reducible rfl)
              simp only [Act.put, List.setIfInBounds_toArray, List.set_cons_zero, List.set_cons_succ]
              replace hCl := hCl'; clear hCl'
              refine T.qTake (i := 6) (d := (some 154)) (v := ?v35) rfl rfl (by kernel_rfl) (by decide) hCl (by kernel_rfl) (by kernel_rfl) (by kernel_rfl) (by rfl) ?hy35 (fun _ _ _ => trivial) (fun hCl' => ?_)
              case hy35 => (intro w hSw; refine T.qVal ?_ hSw; (have fF3 := F3.out w hSw; have fF4 := F4.out w hSw; have fF5 := F5.out w hSw; have fF6 := F6.out w hSw; obtain ⟨z0, z1⟩ := HN1.out w (UU.trans hSw)); (try dsimp only [List.getElem_toArray, List.getElem_cons_succ, List.getElem_cons_zero]); go_simp; try with_reducible rfl)
              simp only [Act.put, List.setIfInBounds_toArray, List.set_cons_zero, List.set_cons_succ]
              replace hCl := hCl'; clear hCl'
              refine T.qTake (i := 3) (d := (some 151)) (v := ?v36) rfl rfl (by kernel_rfl) (by decide) hCl (by kernel_rfl) (by kernel_rfl) (by kernel_rfl) (by rfl) ?hy36 (fun _ _ _ => trivial) (fun hCl' => ?_)
              case hy36 => (intro w hSw; refine T.qVal ?_ hSw; (have fF3 := F3.out w hSw; have fF4 := F4.out w hSw; have fF5 := F5.out w hSw; have fF6 := F6.out w hSw; obtain ⟨z0, z1⟩ := HN1.out w (UU.trans hSw)); (try dsimp only [List.getElem_toArray, List.getElem_cons_succ, List.getElem_cons_zero]); go_simp; try with_reducible rfl)
              simp only [Act.put, List.setIfInBounds_toArray, List.set_cons_zero, List.set_cons_succ]
              replace hCl := hCl'; clear hCl'
              refine T.qTake (i := 4) (d := (some 152)) (v := ?v37) rfl rfl (by kernel_rfl) (by decide) hCl (by kernel_rfl) (by kernel_rfl) (by kernel_rfl) (by rfl) ?hy37 (fun _ _ _ => trivial) (fun hCl' => ?_)
              case hy37 => (intro w hSw; refine T.qVal ?_ hSw; (have fF3 := F3.out w hSw; have fF4 := F4.out w hSw; have fF5 := F5.out w hSw; have fF6 := F6.out w hSw; obtain ⟨z0, z1⟩ := HN1.out w (UU.trans hSw)); (try dsimp only [List.getElem_toArray, List.getElem_cons_succ, List.getElem_cons_zero]); go_simp; try with_reducible rfl)
              simp only [Act.put, List.setIfInBounds_toArray, List.set_cons_zero, List.set_cons_succ]
              replace hCl := hCl'; clear hCl'
              refine T.qTake (i := 7) (d := (some 155)) (v := ?v38) rfl rfl (by kernel_rfl) (by decide) hCl (by kernel_rfl) (by kernel_rfl) (by kernel_rfl) (by rfl) ?hy38 (fun _ _ _ => trivial) (fun hCl' => ?_)
              case hy38 => (intro w hSw; refine T.qVal ?_ hSw; (have fF3 := F3.out w hSw; have fF4 := F4.out w hSw; have fF5 := F5.out w hSw; have fF6 := F6.out w hSw; obtain ⟨z0, z1⟩ := HN1.out w (UU.trans hSw)); (try dsimp only [List.getElem_toArray, List.getElem_cons_succ, List.getElem_cons_zero]); go_simp; try with_reducible rfl)
              simp only [Act.put, List.setIfInBounds_toArray, List.set_cons_zero, List.set_cons_succ]
              replace hCl := hCl'; clear hCl'
              refine T.qTake (i := 8) (d := (some 156)) (v := ?v39) rfl rfl (by kernel_rfl) (by decide) hCl (by kernel_rfl) (by kernel_rfl) (by kernel_rfl) (by rfl) ?hy39 (fun _ _ _ => trivial) (fun hCl' => ?_)
              case hy39 => (intro w hSw; refine T.qVal ?_ hSw; (have fF3 := F3.out w hSw; have fF4 := F4.out w hSw; have fF5 := F5.out w hSw; have fF6 := F6.out w hSw; obtain ⟨z0, z1⟩ := HN1.out w (UU.trans hSw)); (try dsimp only [List.getElem_toArray, List.getElem_cons_succ, List.getElem_cons_zero]); go_simp; try with_reducible rfl)
              simp only [Act.put, List.setIfInBounds_toArray, List.set_cons_zero, List.set_cons_succ]
              replace hCl := hCl'; clear hCl'
              refine T.tail_intro (by kernel_rfl) (fun Y2 hY2 => ?_)
              have UY := hY2
              replace U := U.trans hY2
              replace kC := hY2.blk kC
              replace kZ := hY2.blk kZ
              replace kX := hY2.blk kX
              replace kp := hY2.blk kp
              replace UU := UU.trans hY2
              clear F3 F4 F5 F6 hY2
              refine lastG (i := 9) (by kernel_rfl) rfl (by rfl) (by decide) (fun K hK => ?_)
              go_simp
              refine hK.out _ _ ?_
              clear hK K
              refine doneG (by kernel_rfl) ?_ _
              refine S.nrm_intro ?_
              have n2_HO1 := Lib.hid (row_up n_HO1.out (show Up W1 Y2 from UY))
              clear n_HO1
              by_cases hr2 : r2 = -1
              · skip
                subst hr2
                have f2 : decide ((-1 : Int) ≥ 0) = false := by decide
                have HBu2 := Lib.hid (HBu.out.up UU)
                have HD : Hid (T.dof rows ((r1 : Int), (r0 : Int)) - T.dof rows (-1, 0) = y1) := Lib.hid (by rw [T.dof_0, HY1.out]; omega)
                have H6 := Lib.hid n2_HO1.out
                clear n2_HO1 HN1 HY1 UY UU HNk HBu
                obtain ⟨wd, hwd⟩ : ∃ z, Min.min (r4 - r3) 200 = z := ⟨_, rfl⟩
                have M1 := min_run hwd
                have hwd2 : 0 ≤ wd ∧ wd ≤ 200 := by omega
                have v1 : IntKind.i64.wrap (r4 - r3) = r4 - r3 := IntWalk.i64_in _ (by omega)
                have v2 : IntKind.i64.wrap ((j : Int) + 3) = (j : Int) + 3 := IntWalk.i64_in _ (by omega)
                have v3 : IntKind.i64.wrap (wd + 1) = wd + 1 := IntWalk.i64_in _ (by omega)
                obtain ⟨t3, ht3⟩ : ∃ z, S.at bits ((j : Int) + 3) = z := ⟨_, rfl⟩
                have HA3 := Lib.hid (fun w' (u : Up w w') => show Calls Try.prog 65 #[vb, .int .i64 ((j : Int) + 3)] w' fun e w'' => e = .returned (.int .i64 t3) ∧ w' = w'' by rw [← ht3]; exact B_At_any (HB.out _ u) _)
                obtain ⟨ry, hry⟩ : ∃ z, t3 % (wd + 1) = z := ⟨_, rfl⟩
                have HR3 := Lib.hid (fun w' => show Calls Try.prog 34 #[.int .i64 t3, .int .i64 (wd + 1)] w' fun e w'' => e = .returned (.int .i64 ry) ∧ w' = w'' by rw [← hry]; exact B_Rest_any t3 (wd + 1) w' (by omega) (by omega))
                have ra := Int.emod_nonneg t3 (b := wd + 1) (by omega)
                have rb := Int.emod_lt_of_pos t3 (b := wd + 1) (by omega)
                rw [hry] at ra rb
                have v4 : IntKind.i64.wrap (y1 - ry) = y1 - ry := IntWalk.i64_in _ (by omega)
                have v5 : IntKind.i64.wrap (y1 - ry + wd) = y1 - ry + wd := IntWalk.i64_in _ (by omega)
                clear hwd ht3 hry
                have i_kp := kp
                go_wp2_with fail
                clear i_kp
                refine (HA3.out _ U).mono ?_
                rintro e x3 ⟨rfl, rfl⟩
                go_wp2_with fail
                refine (HR3.out _).mono ?_
                rintro e x4 ⟨rfl, rfl⟩
                go_wp2_with fail
                refine (HTo.out _ _ _).mono ?_
                rintro e x5 ⟨rfl, u⟩
                replace U := U.trans u
                replace kC := u.blk kC
                replace kZ := u.blk kZ
                replace kX := u.blk kX
                replace kp := u.blk kp
                have H7 := Lib.hid (row_up H6.out u)
                have HBv := Lib.hid (HBu2.out.up u)
                have hb7 := u.size
                have hne : some pkp ≠ (Value.slice a3 n c3).ownBlock := fun e => by have := hlt2 pkp e.symm; omega
                clear u H6 HBu2 HA3 HR3 v1 v2 v3 v4 v5 M1
                have zf := frozB kp
                have i0 := kp
                have U1 := ((U.set (p := ⟨pkp, 3, none⟩) (show w.heap.size ≤ pkp by omega) (.int .i64 (y1 - ry))).set (p := ⟨pkp, 4, none⟩) (show w.heap.size ≤ pkp by omega) (.int .i64 (y1 - ry + wd)))
                have jkC := kC
                rw [← blk_set (x5) ⟨pkp, 3, none⟩ (.int .i64 (y1 - ry)) (q0) (by show q0 ≠ pkp; omega), ← blk_set ((x5).setCell ⟨pkp, 3, none⟩ (.int .i64 (y1 - ry))) ⟨pkp, 4, none⟩ (.int .i64 (y1 - ry + wd)) (q0) (by show q0 ≠ pkp; omega)] at jkC
                have jkZ := kZ
                rw [← blk_set (x5) ⟨pkp, 3, none⟩ (.int .i64 (y1 - ry)) (q0 + 1) (by show q0 + 1 ≠ pkp; omega), ← blk_set ((x5).setCell ⟨pkp, 3, none⟩ (.int .i64 (y1 - ry))) ⟨pkp, 4, none⟩ (.int .i64 (y1 - ry + wd)) (q0 + 1) (by show q0 + 1 ≠ pkp; omega)] at jkZ
                have jkX := kX
                rw [← blk_set (x5) ⟨pkp, 3, none⟩ (.int .i64 (y1 - ry)) (q0 + 1 + 1) (by show q0 + 1 + 1 ≠ pkp; omega), ← blk_set ((x5).setCell ⟨pkp, 3, none⟩ (.int .i64 (y1 - ry))) ⟨pkp, 4, none⟩ (.int .i64 (y1 - ry + wd)) (q0 + 1 + 1) (by show q0 + 1 + 1 ≠ pkp; omega)] at jkX
                have jkp : mblk (((x5).setCell ⟨pkp, 3, none⟩ (.int .i64 (y1 - ry))).setCell ⟨pkp, 4, none⟩ (.int .i64 (y1 - ry + wd))) pkp = some (.cells #[.int .i64 r0, .int .i64 r1, .int .i64 (-1), .int .i64 (y1 - ry), .int .i64 (y1 - ry + wd)] 61 (0, 0)) := (blk_put (blk_put kp 3 (.int .i64 (y1 - ry))) 4 (.int .i64 (y1 - ry + wd)))
                obtain ⟨W61, hW61⟩ : ∃ z, ((x5).setCell ⟨pkp, 3, none⟩ (.int .i64 (y1 - ry))).setCell ⟨pkp, 4, none⟩ (.int .i64 (y1 - ry + wd)) = z := ⟨_, rfl⟩
                rw [hW61] at jkC jkZ jkX jkp U1
                clear kC kZ kX kp U
                have kC := jkC
                have kZ := jkZ
                have kX := jkX
                have kp := jkp
                have U := U1
                clear jkC jkZ jkX jkp U1
                have H8 := Lib.hid (row_other (row_other H7.out (grown_set x5 pkp 3 (.int .i64 (y1 - ry))) hne) (grown_set _ pkp 4 (.int .i64 (y1 - ry + wd))) hne)
                have hb8 : (x5.setCell ⟨pkp, 3, none⟩ (.int .i64 (y1 - ry))).setCell ⟨pkp, 4, none⟩ (.int .i64 (y1 - ry + wd)) = W61 := hW61
                have HBw : Hid (T.But (q0 + 1 + 1) W5 W61) := Lib.hid ⟨by rw [← hb8]; have := HBv.out.size; simpa [World.setCell] using this, fun b o hb q => by rw [← hb8, blk_set _ _ _ _ (by show b ≠ pkp; have := blk_lt q; omega), blk_set _ _ _ _ (by show b ≠ pkp; have := blk_lt q; omega)]; exact HBv.out.blk b o hb q⟩
                rw [hW61] at H8
                have hb9 : b5 ≤ W61.heap.size := by rw [← hb5]; exact HBw.out.size
                clear H7 HBv hb8
                have i_kC := kC
                have jkC := blk_keep (.cells #[.int .i64 r0, .int .i64 r1, .int .i64 (-1), .int .i64 (y1 - ry), .int .i64 (y1 - ry + wd)] 61) kC
                have tkC := blk_lt kC
                have i_kZ := kZ
                have jkZ := blk_keep (.cells #[.int .i64 r0, .int .i64 r1, .int .i64 (-1), .int .i64 (y1 - ry), .int .i64 (y1 - ry + wd)] 61) kZ
                have tkZ := blk_lt kZ
                have i_kX := kX
                have jkX := blk_keep (.cells #[.int .i64 r0, .int .i64 r1, .int .i64 (-1), .int .i64 (y1 - ry), .int .i64 (y1 - ry + wd)] 61) kX
                have tkX := blk_lt kX
                have i_kp := kp
                have jkp := blk_keep (.cells #[.int .i64 r0, .int .i64 r1, .int .i64 (-1), .int .i64 (y1 - ry), .int .i64 (y1 - ry + wd)] 61) kp
                have tkp := blk_lt kp
                have own0 := H8.out.alloc (.cells #[.int .i64 r0, .int .i64 r1, .int .i64 (-1), .int .i64 (y1 - ry), .int .i64 (y1 - ry + wd)] 61)
                have U1 := U.alloc (.cells #[.int .i64 r0, .int .i64 r1, .int .i64 (-1), .int .i64 (y1 - ry), .int .i64 (y1 - ry + wd)] 61)
                have IN := T.one_pair W61 r0 r1 (-1) (y1 - ry) (y1 - ry + wd)
                have hb1 : b5 ≤ W61.heap.size := by omega
                go_wp2_with (at_builtin; refine T.wpList_app T.elP rfl (.tmp 195) (.tmp 197) rfl IN rfl (b5) _ n rfl own0 (by omega) (by simp) (by simp; omega) ?_; intro v1 w1 own1 grow1; have rkC := grown_blk grow1 jkC (row_block own0 (by omega)); have rkZ := grown_blk grow1 jkZ (row_block own0 (by omega)); have rkX := grown_blk grow1 jkX (row_block own0 (by omega)); have U2 : Up w w1 := U1.grown grow1 (fun k e => by (have := row_base own0 k e; omega)); obtain ⟨a1, c1, rfl, _, _⟩ := row_val own1; have zx := frozB rkX)
                have ykX : mblk (w1.setCell ⟨q0 + 1 + 1, 3, none⟩ (.slice a1 (n + 1) c1)) (q0 + 1 + 1) = some (.cells #[.int .i64 H, .slice (some ⟨gR, oR, none⟩) rs.length cR, .slice a os.length c, .slice a1 (n + 1) c1] 26 (0, 0)) := blk_put rkX 3 _
                have ykC : mblk (w1.setCell ⟨q0 + 1 + 1, 3, none⟩ (.slice a1 (n + 1) c1)) (q0) = some (.cells #[.int .i64 H, .slice (some ⟨gR, oR, none⟩) rs.length cR, .slice aO os.length cO, .slice (some ⟨g, off, none⟩) ps.length cP] 26 (0, 0)) := by rw [blk_set _ _ _ _ (by show q0 ≠ q0 + 1 + 1; omega)]; exact rkC
                have ykZ : mblk (w1.setCell ⟨q0 + 1 + 1, 3, none⟩ (.slice a1 (n + 1) c1)) (q0 + 1) = some (.cells #[.int .i64 0, .slice none 0 0, .slice none 0 0, .slice none 0 0] 26 (0, 0)) := by rw [blk_set _ _ _ _ (by show q0 + 1 ≠ q0 + 1 + 1; omega)]; exact rkZ
                have U3 := U2.set (p := ⟨q0 + 1 + 1, 3, none⟩) (show w.heap.size ≤ q0 + 1 + 1 by omega) (.slice a1 (n + 1) c1)
                have H9 := Lib.hid (show (w1.setCell ⟨q0 + 1 + 1, 3, none⟩ (.slice a1 (n + 1) c1)).ownsRow b5 61 5 (.slice a1 (n + 1) c1) (n + 1) (T.flat 5 T.encP (xs ++ [((r0 : Int), (r1 : Int), (-1), y1 - ry, y1 - ry + wd)])) from row_other own1 (grown_set w1 (q0 + 1 + 1) 3 _) (row_block own1 (by omega)))
                have HBz := Lib.hid (((HBw.out.up ((Up.refl W61).alloc (.cells #[.int .i64 r0, .int .i64 r1, .int .i64 (-1), .int .i64 (y1 - ry), .int .i64 (y1 - ry + wd)] 61))).grown own0 (by rw [hb5]; exact Nat.le_refl _) grow1).set (p := q0 + 1 + 1) (j := 3) (.slice a1 (n + 1) c1))
                have hbz : b5 ≤ (w1.setCell ⟨q0 + 1 + 1, 3, none⟩ (.slice a1 (n + 1) c1)).heap.size := by rw [← hb5]; exact HBz.out.size
                have HP2 : Hid (∀ x ∈ xs ++ [((r0 : Int), (r1 : Int), (-1), y1 - ry, y1 - ry + wd)], T.PrOk H rs.length (T.dof rows) x) := Lib.hid (fun x hx => by
                  rcases List.mem_append.1 hx with hx | hx
                  · exact HPX.out x hx
                  · rw [List.mem_singleton] at hx
                    subst hx
                    refine ⟨⟨⟨by show (0 : Int) ≤ r0; omega, by show (r0 : Int) ≤ H; omega⟩, ⟨by show (0 : Int) ≤ r1; omega, by show (r1 : Int) < rs.length; omega⟩, ⟨p5, p6⟩, p7, ⟨⟨by show -200000 ≤ y1 - ry; omega, by show y1 - ry ≤ 200000; omega⟩, by show -200000 ≤ y1 - ry + wd; omega, by show y1 - ry + wd ≤ 200000; omega⟩, by show y1 - ry ≤ y1 - ry + wd; omega⟩, ?_⟩
                    show T.In (y1 - ry, y1 - ry + wd) (T.dof rows ((r1 : Int), (r0 : Int)) - T.dof rows ((-1), if (-1) = -1 then 0 else (r0 : Int)))
                    rw [if_pos rfl, HD.out]
                    unfold T.In
                    simp only
                    omega)
                have HX2 : Hid ((xs ++ [((r0 : Int), (r1 : Int), (-1), y1 - ry, y1 - ry + wd)]).length = n + 1) := Lib.hid (by rw [List.length_append, HXL.out]; rfl)
                clear own1 own0 grow1 IN U1 U2 zx H8 HBw jkC jkZ jkX jkp rkC rkZ rkX i_kC i_kZ i_kX i_kp kC kZ kX kp U
                go_roundw
                case rel => exact ⟨j + 1, n + 1, a1, c1, _, by omega, by go_num, H9, HP2, HX2, by omega, HBz, hbz, U3, ykC, ykZ, ykX⟩
                case measure => (simp only [intOf]; omega)
              · skip
                obtain ⟨r2, rfl⟩ := Int.eq_ofNat_of_zero_le (show 0 ≤ r2 by omega)
                have f2 : decide ((r2 : Int) ≥ 0) = true := decide_eq_true (by omega)
                have f3 : (0 : Int) ≤ (r2 : Int) := by omega
                obtain ⟨g2, cp2, HN2, hn2⟩ := HNk.out r2 r0 (by omega) (by omega)
                obtain ⟨y2, hy2⟩ : ∃ z, T.dof rows ((r2 : Int), (r0 : Int)) = z := ⟨_, rfl⟩
                rw [hy2] at HN2 hn2
                have ir2 : (r2 : Int) < (rs.length : Int) := by omega
                have HD : Hid (T.dof rows ((r1 : Int), (r0 : Int)) - T.dof rows ((r2 : Int), (r0 : Int)) = y1 - y2) := Lib.hid (by rw [HY1.out, hy2])
                have v0 : IntKind.i64.wrap (y1 - y2) = y1 - y2 := IntWalk.i64_in _ (by omega)
                clear hy2 HNk hr2 HN1 HY1 UY
                have i_kp := kp
                go_wp2_with fail
                clear i_kp
                have F92 := Lib.hid (fun w (u : Up Y2 w) => cellB (u.blk kC))
                have F93 := Lib.hid (fun w (u : Up Y2 w) => cellB (u.blk kZ))
                have F94 := Lib.hid (fun w (u : Up Y2 w) => cellB (u.blk kX))
                have F95 := Lib.hid (fun w (u : Up Y2 w) => cellB (u.blk kp))
                refine (wpIn_wide (n := 5)).1 ?_
                refine wpIn_nrm ?_
                refine T.regionQ (fun w' => Up Y2 w') 11 1 hmx (by kernel_rfl) (by kernel_rfl) ((Up.refl Y2).drew) (fun hCl => ?_)
                refine T.qTake (i := 0) (d := (some 160)) (v := ?v40) rfl rfl (by kernel_rfl) (by decide) hCl (by kernel_rfl) (by kernel_rfl) (by kernel_rfl) (by rfl) ?hy40 (fun _ _ _ => trivial) (fun hCl' => ?_)
                case hy40 => (intro w hSw; refine T.qVal ?_ hSw; (have fF92 := F92.out w hSw; have fF93 := F93.out w hSw; have fF94 := F94.out w hSw; have fF95 := F95.out w hSw; obtain ⟨z0, z1⟩ := HN2.out w (UU.trans hSw)); (try dsimp only [List.getElem_toArray, List.getElem_cons_succ, List.getElem_cons_zero]); go_simp; try with_reducible rfl)
                simp only [Act.put, List.setIfInBounds_toArray, List.set_cons_zero, List.set_cons_succ]
                replace hCl := hCl'; clear hCl'
                refine T.qTake (i := 1) (d := (some 161)) (v := ?v41) rfl rfl (by kernel_rfl) (by decide) hCl (by kernel_rfl) (by kernel_rfl) (by kernel_rfl) (by rfl) ?hy41 (fun _ _ _ => trivial) (fun hCl' => ?_)
                case hy41 => (intro w hSw; refine T.qVal ?_ hSw; (have fF92 := F92.out w hSw; have fF93 := F93.out w hSw; have fF94 := F94.out w hSw; have fF95 := F95.out w hSw; obtain ⟨z0, z1⟩ := HN2.out w (UU.trans hSw)); (try dsimp only [List.getElem_toArray, List.getElem_cons_succ, List.getElem_cons_zero]); go_simp; try with_reducible rfl)
                simp only [Act.put, List.setIfInBounds_toArray, List.set_cons_zero, List.set_cons_succ]
                replace hCl := hCl'; clear hCl'
                refine T.qTake (i := 2) (d := (some 162)) (v := ?v42) rfl rfl (by kernel_rfl) (by decide) hCl (by kernel_rfl) (by kernel_rfl) (by kernel_rfl) (by rfl) ?hy42 (fun _ _ _ => trivial) (fun hCl' => ?_)
                case hy42 => (intro w hSw; refine T.qVal ?_ hSw; (have fF92 := F92.out w hSw; have fF93 := F93.out w hSw; have fF94 := F94.out w hSw; have fF95 := F95.out w hSw; obtain ⟨z0, z1⟩ := HN2.out w (UU.trans hSw)); (try dsimp only [List.getElem_toArray, List.getElem_cons_succ, List.getElem_cons_zero]); go_simp; try with_reducible rfl)
                simp only [Act.put, List.setIfInBounds_toArray, List.set_cons_zero, List.set_cons_succ]
                replace hCl := hCl'; clear hCl'
                refine T.qTake (i := 6) (d := (some 166)) (v := ?v43) rfl rfl (by kernel_rfl) (by decide) hCl (by kernel_rfl) (by kernel_rfl) (by kernel_rfl) (by rfl) ?hy43 (fun _ _ _ => trivial) (fun hCl' => ?_)
                case hy43 => (intro w hSw; refine T.qVal ?_ hSw; (have fF92 := F92.out w hSw; have fF93 := F93.out w hSw; have fF94 := F94.out w hSw; have fF95 := F95.out w hSw; obtain ⟨z0, z1⟩ := HN2.out w (UU.trans hSw)); (try dsimp only [List.getElem_toArray, List.getElem_cons_succ, List.getElem_cons_zero]); go_simp; try with_reducible rfl)
                simp only [Act.put, List.setIfInBounds_toArray, List.set_cons_zero, List.set_cons_succ]
                replace hCl := hCl'; clear hCl'
                refine T.qTake (i := 3) (d := (some 163)) (v := ?v44) rfl rfl (by kernel_rfl) (by decide) hCl (by kernel_rfl) (by kernel_rfl) (by kernel_rfl) (by rfl) ?hy44 (fun _ _ _ => trivial) (fun hCl' => ?_)
                case hy44 => (intro w hSw; refine T.qVal ?_ hSw; (have fF92 := F92.out w hSw; have fF93 := F93.out w hSw; have fF94 := F94.out w hSw; have fF95 := F95.out w hSw; obtain ⟨z0, z1⟩ := HN2.out w (UU.trans hSw)); (try dsimp only [List.getElem_toArray, List.getElem_cons_succ, List.getElem_cons_zero]); go_simp; try with_reducible rfl)
                simp only [Act.put, List.setIfInBounds_toArray, List.set_cons_zero, List.set_cons_succ]
                replace hCl := hCl'; clear hCl'
                refine T.qTake (i := 7) (d := (some 167)) (v := ?v45) rfl rfl (by kernel_rfl) (by decide) hCl (by kernel_rfl) (by kernel_rfl) (by kernel_rfl) (by rfl) ?hy45 (fun _ _ _ => trivial) (fun hCl' => ?_)
                case hy45 => (intro w hSw; refine T.qVal ?_ hSw; (have fF92 := F92.out w hSw; have fF93 := F93.out w hSw; have fF94 := F94.out w hSw; have fF95 := F95.out w hSw; obtain ⟨z0, z1⟩ := HN2.out w (UU.trans hSw)); (try dsimp only [List.getElem_toArray, List.getElem_cons_succ, List.getElem_cons_zero]); go_simp; try with_reducible rfl)
                simp only [Act.put, List.setIfInBounds_toArray, List.set_cons_zero, List.set_cons_succ]
                replace hCl := hCl'; clear hCl'
                refine T.qTake (i := 4) (d := (some 164)) (v := ?v46) rfl rfl (by kernel_rfl) (by decide) hCl (by kernel_rfl) (by kernel_rfl) (by kernel_rfl) (by rfl) ?hy46 (fun _ _ _ => trivial) (fun hCl' => ?_)
                case hy46 => (intro w hSw; refine T.qVal ?_ hSw; (have fF92 := F92.out w hSw; have fF93 := F93.out w hSw; have fF94 := F94.out w hSw; have fF95 := F95.out w hSw; obtain ⟨z0, z1⟩ := HN2.out w (UU.trans hSw)); (try dsimp only [List.getElem_toArray, List.getElem_cons_succ, List.getElem_cons_zero]); go_simp; try with_reducible rfl)
                simp only [Act.put, List.setIfInBounds_toArray, List.set_cons_zero, List.set_cons_succ]
                replace hCl := hCl'; clear hCl'
                refine T.qTake (i := 5) (d := (some 165)) (v := ?v47) rfl rfl (by kernel_rfl) (by decide) hCl (by kernel_rfl) (by kernel_rfl) (by kernel_rfl) (by rfl) ?hy47 (fun _ _ _ => trivial) (fun hCl' => ?_)
                case hy47 => (intro w hSw; refine T.qVal ?_ hSw; (have fF92 := F92.out w hSw; have fF93 := F93.out w hSw; have fF94 := F94.out w hSw; have fF95 := F95.out w hSw; obtain ⟨z0, z1⟩ := HN2.out w (UU.trans hSw)); (try dsimp only [List.getElem_toArray, List.getElem_cons_succ, List.getElem_cons_zero]); go_simp; try with_reducible rfl)
                simp only [Act.put, List.setIfInBounds_toArray, List.set_cons_zero, List.set_cons_succ]
                replace hCl := hCl'; clear hCl'
                refine T.qTake (i := 8) (d := (some 168)) (v := ?v48) rfl rfl (by kernel_rfl) (by decide) hCl (by kernel_rfl) (by kernel_rfl) (by kernel_rfl) (by rfl) ?hy48 (fun _ _ _ => trivial) (fun hCl' => ?_)
                case hy48 => (intro w hSw; refine T.qVal ?_ hSw; (have fF92 := F92.out w hSw; have fF93 := F93.out w hSw; have fF94 := F94.out w hSw; have fF95 := F95.out w hSw; obtain ⟨z0, z1⟩ := HN2.out w (UU.trans hSw)); (try dsimp only [List.getElem_toArray, List.getElem_cons_succ, List.getElem_cons_zero]); go_simp; try with_reducible rfl)
                simp only [Act.put, List.setIfInBounds_toArray, List.set_cons_zero, List.set_cons_succ]
                replace hCl := hCl'; clear hCl'
                refine T.qTake (i := 9) (d := (some 169)) (v := ?v49) rfl rfl (by kernel_rfl) (by decide) hCl (by kernel_rfl) (by kernel_rfl) (by kernel_rfl) (by rfl) ?hy49 (fun _ _ _ => trivial) (fun hCl' => ?_)
                case hy49 => (intro w hSw; refine T.qVal ?_ hSw; (have fF92 := F92.out w hSw; have fF93 := F93.out w hSw; have fF94 := F94.out w hSw; have fF95 := F95.out w hSw; obtain ⟨z0, z1⟩ := HN2.out w (UU.trans hSw)); (try dsimp only [List.getElem_toArray, List.getElem_cons_succ, List.getElem_cons_zero]); go_simp; try with_reducible rfl)
                simp only [Act.put, List.setIfInBounds_toArray, List.set_cons_zero, List.set_cons_succ]
                replace hCl := hCl'; clear hCl'
                refine T.qTake (i := 10) (d := (some 170)) (v := ?v50) rfl rfl (by kernel_rfl) (by decide) hCl (by kernel_rfl) (by kernel_rfl) (by kernel_rfl) (by rfl) ?hy50 (fun _ _ _ => trivial) (fun hCl' => ?_)
                case hy50 => (intro w hSw; refine T.qVal ?_ hSw; (have fF92 := F92.out w hSw; have fF93 := F93.out w hSw; have fF94 := F94.out w hSw; have fF95 := F95.out w hSw; obtain ⟨z0, z1⟩ := HN2.out w (UU.trans hSw)); (try dsimp only [List.getElem_toArray, List.getElem_cons_succ, List.getElem_cons_zero]); go_simp; try with_reducible rfl)
                simp only [Act.put, List.setIfInBounds_toArray, List.set_cons_zero, List.set_cons_succ]
                replace hCl := hCl'; clear hCl'
                refine T.tail_intro (by kernel_rfl) (fun Y91 hY91 => ?_)
                have UY2 := hY91
                replace U := U.trans hY91
                replace kC := hY91.blk kC
                replace kZ := hY91.blk kZ
                replace kX := hY91.blk kX
                replace kp := hY91.blk kp
                replace UU := UU.trans hY91
                clear F92 F93 F94 F95 hY91
                refine lastG (i := 11) (by kernel_rfl) rfl (by rfl) (by decide) (fun K hK => ?_)
                go_simp
                refine hK.out _ _ ?_
                clear hK K
                refine doneG (by kernel_rfl) ?_ _
                refine S.nrm_intro ?_
                have H6 := Lib.hid (row_up n2_HO1.out UY2)
                have HBu2 := Lib.hid (HBu.out.up UU)
                clear n2_HO1 UY2 UU HN2 HBu v0
                obtain ⟨wd, hwd⟩ : ∃ z, Min.min (r4 - r3) 200 = z := ⟨_, rfl⟩
                have M1 := min_run hwd
                have hwd2 : 0 ≤ wd ∧ wd ≤ 200 := by omega
                have v1 : IntKind.i64.wrap (r4 - r3) = r4 - r3 := IntWalk.i64_in _ (by omega)
                have v2 : IntKind.i64.wrap ((j : Int) + 3) = (j : Int) + 3 := IntWalk.i64_in _ (by omega)
                have v3 : IntKind.i64.wrap (wd + 1) = wd + 1 := IntWalk.i64_in _ (by omega)
                obtain ⟨t3, ht3⟩ : ∃ z, S.at bits ((j : Int) + 3) = z := ⟨_, rfl⟩
                have HA3 := Lib.hid (fun w' (u : Up w w') => show Calls Try.prog 65 #[vb, .int .i64 ((j : Int) + 3)] w' fun e w'' => e = .returned (.int .i64 t3) ∧ w' = w'' by rw [← ht3]; exact B_At_any (HB.out _ u) _)
                obtain ⟨ry, hry⟩ : ∃ z, t3 % (wd + 1) = z := ⟨_, rfl⟩
                have HR3 := Lib.hid (fun w' => show Calls Try.prog 34 #[.int .i64 t3, .int .i64 (wd + 1)] w' fun e w'' => e = .returned (.int .i64 ry) ∧ w' = w'' by rw [← hry]; exact B_Rest_any t3 (wd + 1) w' (by omega) (by omega))
                have ra := Int.emod_nonneg t3 (b := wd + 1) (by omega)
                have rb := Int.emod_lt_of_pos t3 (b := wd + 1) (by omega)
                rw [hry] at ra rb
                have v4 : IntKind.i64.wrap (y1 - y2 - ry) = y1 - y2 - ry := IntWalk.i64_in _ (by omega)
                have v5 : IntKind.i64.wrap (y1 - y2 - ry + wd) = y1 - y2 - ry + wd := IntWalk.i64_in _ (by omega)
                clear hwd ht3 hry
                have i_kp := kp
                go_wp2_with fail
                clear i_kp
                refine (HA3.out _ U).mono ?_
                rintro e x3 ⟨rfl, rfl⟩
                go_wp2_with fail
                refine (HR3.out _).mono ?_
                rintro e x4 ⟨rfl, rfl⟩
                go_wp2_with fail
                refine (HTo.out _ _ _).mono ?_
                rintro e x5 ⟨rfl, u⟩
                replace U := U.trans u
                replace kC := u.blk kC
                replace kZ := u.blk kZ
                replace kX := u.blk kX
                replace kp := u.blk kp
                have H7 := Lib.hid (row_up H6.out u)
                have HBv := Lib.hid (HBu2.out.up u)
                have hb7 := u.size
                have hne : some pkp ≠ (Value.slice a3 n c3).ownBlock := fun e => by have := hlt2 pkp e.symm; omega
                clear u H6 HBu2 HA3 HR3 v1 v2 v3 v4 v5 M1
                have zf := frozB kp
                have i0 := kp
                have U1 := ((U.set (p := ⟨pkp, 3, none⟩) (show w.heap.size ≤ pkp by omega) (.int .i64 (y1 - y2 - ry))).set (p := ⟨pkp, 4, none⟩) (show w.heap.size ≤ pkp by omega) (.int .i64 (y1 - y2 - ry + wd)))
                have jkC := kC
                rw [← blk_set (x5) ⟨pkp, 3, none⟩ (.int .i64 (y1 - y2 - ry)) (q0) (by show q0 ≠ pkp; omega), ← blk_set ((x5).setCell ⟨pkp, 3, none⟩ (.int .i64 (y1 - y2 - ry))) ⟨pkp, 4, none⟩ (.int .i64 (y1 - y2 - ry + wd)) (q0) (by show q0 ≠ pkp; omega)] at jkC
                have jkZ := kZ
                rw [← blk_set (x5) ⟨pkp, 3, none⟩ (.int .i64 (y1 - y2 - ry)) (q0 + 1) (by show q0 + 1 ≠ pkp; omega), ← blk_set ((x5).setCell ⟨pkp, 3, none⟩ (.int .i64 (y1 - y2 - ry))) ⟨pkp, 4, none⟩ (.int .i64 (y1 - y2 - ry + wd)) (q0 + 1) (by show q0 + 1 ≠ pkp; omega)] at jkZ
                have jkX := kX
                rw [← blk_set (x5) ⟨pkp, 3, none⟩ (.int .i64 (y1 - y2 - ry)) (q0 + 1 + 1) (by show q0 + 1 + 1 ≠ pkp; omega), ← blk_set ((x5).setCell ⟨pkp, 3, none⟩ (.int .i64 (y1 - y2 - ry))) ⟨pkp, 4, none⟩ (.int .i64 (y1 - y2 - ry + wd)) (q0 + 1 + 1) (by show q0 + 1 + 1 ≠ pkp; omega)] at jkX
                have jkp : mblk (((x5).setCell ⟨pkp, 3, none⟩ (.int .i64 (y1 - y2 - ry))).setCell ⟨pkp, 4, none⟩ (.int .i64 (y1 - y2 - ry + wd))) pkp = some (.cells #[.int .i64 r0, .int .i64 r1, .int .i64 (r2 : Int), .int .i64 (y1 - y2 - ry), .int .i64 (y1 - y2 - ry + wd)] 61 (0, 0)) := (blk_put (blk_put kp 3 (.int .i64 (y1 - y2 - ry))) 4 (.int .i64 (y1 - y2 - ry + wd)))
                obtain ⟨W96, hW96⟩ : ∃ z, ((x5).setCell ⟨pkp, 3, none⟩ (.int .i64 (y1 - y2 - ry))).setCell ⟨pkp, 4, none⟩ (.int .i64 (y1 - y2 - ry + wd)) = z := ⟨_, rfl⟩
                rw [hW96] at jkC jkZ jkX jkp U1
                clear kC kZ kX kp U
                have kC := jkC
                have kZ := jkZ
                have kX := jkX
                have kp := jkp
                have U := U1
                clear jkC jkZ jkX jkp U1
                have H8 := Lib.hid (row_other (row_other H7.out (grown_set x5 pkp 3 (.int .i64 (y1 - y2 - ry))) hne) (grown_set _ pkp 4 (.int .i64 (y1 - y2 - ry + wd))) hne)
                have hb8 : (x5.setCell ⟨pkp, 3, none⟩ (.int .i64 (y1 - y2 - ry))).setCell ⟨pkp, 4, none⟩ (.int .i64 (y1 - y2 - ry + wd)) = W96 := hW96
                have HBw : Hid (T.But (q0 + 1 + 1) W5 W96) := Lib.hid ⟨by rw [← hb8]; have := HBv.out.size; simpa [World.setCell] using this, fun b o hb q => by rw [← hb8, blk_set _ _ _ _ (by show b ≠ pkp; have := blk_lt q; omega), blk_set _ _ _ _ (by show b ≠ pkp; have := blk_lt q; omega)]; exact HBv.out.blk b o hb q⟩
                rw [hW96] at H8
                have hb9 : b5 ≤ W96.heap.size := by rw [← hb5]; exact HBw.out.size
                clear H7 HBv hb8
                have i_kC := kC
                have jkC := blk_keep (.cells #[.int .i64 r0, .int .i64 r1, .int .i64 (r2 : Int), .int .i64 (y1 - y2 - ry), .int .i64 (y1 - y2 - ry + wd)] 61) kC
                have tkC := blk_lt kC
                have i_kZ := kZ
                have jkZ := blk_keep (.cells #[.int .i64 r0, .int .i64 r1, .int .i64 (r2 : Int), .int .i64 (y1 - y2 - ry), .int .i64 (y1 - y2 - ry + wd)] 61) kZ
                have tkZ := blk_lt kZ
                have i_kX := kX
                have jkX := blk_keep (.cells #[.int .i64 r0, .int .i64 r1, .int .i64 (r2 : Int), .int .i64 (y1 - y2 - ry), .int .i64 (y1 - y2 - ry + wd)] 61) kX
                have tkX := blk_lt kX
                have i_kp := kp
                have jkp := blk_keep (.cells #[.int .i64 r0, .int .i64 r1, .int .i64 (r2 : Int), .int .i64 (y1 - y2 - ry), .int .i64 (y1 - y2 - ry + wd)] 61) kp
                have tkp := blk_lt kp
                have own0 := H8.out.alloc (.cells #[.int .i64 r0, .int .i64 r1, .int .i64 (r2 : Int), .int .i64 (y1 - y2 - ry), .int .i64 (y1 - y2 - ry + wd)] 61)
                have U1 := U.alloc (.cells #[.int .i64 r0, .int .i64 r1, .int .i64 (r2 : Int), .int .i64 (y1 - y2 - ry), .int .i64 (y1 - y2 - ry + wd)] 61)
                have IN := T.one_pair W96 r0 r1 (r2 : Int) (y1 - y2 - ry) (y1 - y2 - ry + wd)
                have hb1 : b5 ≤ W96.heap.size := by omega
                go_wp2_with (at_builtin; refine T.wpList_app T.elP rfl (.tmp 195) (.tmp 197) rfl IN rfl (b5) _ n rfl own0 (by omega) (by simp) (by simp; omega) ?_; intro v1 w1 own1 grow1; have rkC := grown_blk grow1 jkC (row_block own0 (by omega)); have rkZ := grown_blk grow1 jkZ (row_block own0 (by omega)); have rkX := grown_blk grow1 jkX (row_block own0 (by omega)); have U2 : Up w w1 := U1.grown grow1 (fun k e => by (have := row_base own0 k e; omega)); obtain ⟨a1, c1, rfl, _, _⟩ := row_val own1; have zx := frozB rkX)
                have ykX : mblk (w1.setCell ⟨q0 + 1 + 1, 3, none⟩ (.slice a1 (n + 1) c1)) (q0 + 1 + 1) = some (.cells #[.int .i64 H, .slice (some ⟨gR, oR, none⟩) rs.length cR, .slice a os.length c, .slice a1 (n + 1) c1] 26 (0, 0)) := blk_put rkX 3 _
                have ykC : mblk (w1.setCell ⟨q0 + 1 + 1, 3, none⟩ (.slice a1 (n + 1) c1)) (q0) = some (.cells #[.int .i64 H, .slice (some ⟨gR, oR, none⟩) rs.length cR, .slice aO os.length cO, .slice (some ⟨g, off, none⟩) ps.length cP] 26 (0, 0)) := by rw [blk_set _ _ _ _ (by show q0 ≠ q0 + 1 + 1; omega)]; exact rkC
                have ykZ : mblk (w1.setCell ⟨q0 + 1 + 1, 3, none⟩ (.slice a1 (n + 1) c1)) (q0 + 1) = some (.cells #[.int .i64 0, .slice none 0 0, .slice none 0 0, .slice none 0 0] 26 (0, 0)) := by rw [blk_set _ _ _ _ (by show q0 + 1 ≠ q0 + 1 + 1; omega)]; exact rkZ
                have U3 := U2.set (p := ⟨q0 + 1 + 1, 3, none⟩) (show w.heap.size ≤ q0 + 1 + 1 by omega) (.slice a1 (n + 1) c1)
                have H9 := Lib.hid (show (w1.setCell ⟨q0 + 1 + 1, 3, none⟩ (.slice a1 (n + 1) c1)).ownsRow b5 61 5 (.slice a1 (n + 1) c1) (n + 1) (T.flat 5 T.encP (xs ++ [((r0 : Int), (r1 : Int), (r2 : Int), y1 - y2 - ry, y1 - y2 - ry + wd)])) from row_other own1 (grown_set w1 (q0 + 1 + 1) 3 _) (row_block own1 (by omega)))
                have HBz := Lib.hid (((HBw.out.up ((Up.refl W96).alloc (.cells #[.int .i64 r0, .int .i64 r1, .int .i64 (r2 : Int), .int .i64 (y1 - y2 - ry), .int .i64 (y1 - y2 - ry + wd)] 61))).grown own0 (by rw [hb5]; exact Nat.le_refl _) grow1).set (p := q0 + 1 + 1) (j := 3) (.slice a1 (n + 1) c1))
                have hbz : b5 ≤ (w1.setCell ⟨q0 + 1 + 1, 3, none⟩ (.slice a1 (n + 1) c1)).heap.size := by rw [← hb5]; exact HBz.out.size
                have HP2 : Hid (∀ x ∈ xs ++ [((r0 : Int), (r1 : Int), (r2 : Int), y1 - y2 - ry, y1 - y2 - ry + wd)], T.PrOk H rs.length (T.dof rows) x) := Lib.hid (fun x hx => by
                  rcases List.mem_append.1 hx with hx | hx
                  · exact HPX.out x hx
                  · rw [List.mem_singleton] at hx
                    subst hx
                    refine ⟨⟨⟨by show (0 : Int) ≤ r0; omega, by show (r0 : Int) ≤ H; omega⟩, ⟨by show (0 : Int) ≤ r1; omega, by show (r1 : Int) < rs.length; omega⟩, ⟨p5, p6⟩, p7, ⟨⟨by show -200000 ≤ y1 - y2 - ry; omega, by show y1 - y2 - ry ≤ 200000; omega⟩, by show -200000 ≤ y1 - y2 - ry + wd; omega, by show y1 - y2 - ry + wd ≤ 200000; omega⟩, by show y1 - y2 - ry ≤ y1 - y2 - ry + wd; omega⟩, ?_⟩
                    show T.In (y1 - y2 - ry, y1 - y2 - ry + wd) (T.dof rows ((r1 : Int), (r0 : Int)) - T.dof rows ((r2 : Int), if (r2 : Int) = -1 then 0 else (r0 : Int)))
                    rw [if_neg (by omega), HD.out]
                    unfold T.In
                    simp only
                    omega)
                have HX2 : Hid ((xs ++ [((r0 : Int), (r1 : Int), (r2 : Int), y1 - y2 - ry, y1 - y2 - ry + wd)]).length = n + 1) := Lib.hid (by rw [List.length_append, HXL.out]; rfl)
                clear own1 own0 grow1 IN U1 U2 zx H8 HBw jkC jkZ jkX jkp rkC rkZ rkX i_kC i_kZ i_kX i_kp kC kZ kX kp U
                go_roundw
                case rel => exact ⟨j + 1, n + 1, a1, c1, _, by omega, by go_num, H9, HP2, HX2, by omega, HBz, hbz, U3, ykC, ykZ, ykX⟩
                case measure => (simp only [intOf]; omega)
            · skip
              obtain rfl : j = ps.length := by omega
              have dk : decide ((ps.length : Int) < (ps.length : Int)) = false := decide_eq_false (by omega)
              have hxl := HXL.out
              obtain ⟨A1, A2⟩ := HR.out
              have hTT := T.went_tru HG.out A1.2.1 (fun k hk => A2 k hk) HPX.out
              have hGG := T.good_cut HG.out HPX.out (by omega)
              have HF := Lib.hid (fun w' (hb : ∀ b o, b ≠ q0 + 1 → mblk wr b = some o → mblk w' b = some o) => show T.Rows w' (.slice (some ⟨go, 0, none⟩) rs.length co) rows ∧ Ops w' (.slice a os.length c) (os.map T.cutO) ∧ Prs w' (.slice a3 n c3) xs ∧ T.Good H rs (os.map T.cutO) xs ∧ T.Table H rs rows (T.dof rows) ∧ T.Tr H rs (os.map T.cutO) xs (T.dof rows) from ⟨by
                  have own5 : W5.ownsRow b2 44 1 (.slice (some ⟨go, 0, none⟩) rs.length co) rs.length us := HOut.out
                  have A3 : T.Mrs w' us rows H rs.length W5.heap.size := A1.keep (Nat.le_refl _) (fun g cs _ q => hb g _ (fun e => by have := (HK.out _ V).2.1; rw [← e, q] at this; cases this) (HBu.out.blk g _ (fun e => by have := (HK.out _ V).2.2.1; rw [← e, q] at this; cases this) q))
                  refine A3.rows q2 q4 (base := b2) ⟨own5.1, ?_⟩
                  rcases own5.2 with ⟨_, hn⟩ | ⟨go', co', cur', e', hg', hcu', rest⟩
                  · omega
                  · exact .inr ⟨go', co', cur', e', hg', hb go' _ (by omega) (HBu.out.blk go' _ (by omega) hcu'), rest⟩, by
                  refine Tab.of_row (base := q0 + 3) (e := 63) ⟨HA.out.1, ?_⟩ (by decide) (by omega)
                  rcases HA.out.2 with h | ⟨g', c', cur', e', hg', hcu', rest⟩
                  · exact .inl h
                  · exact .inr ⟨g', c', cur', e', hg', hb g' _ (by omega) (HBu.out.blk g' _ (by omega) hcu'), rest⟩, by
                  refine Tab.of_row (base := b5) (e := 61) ⟨HO1.out.1, ?_⟩ (by decide) (by omega)
                  rcases HO1.out.2 with h | ⟨g', c', cur', e', hg', hcu', rest⟩
                  · exact .inl h
                  · exact .inr ⟨g', c', cur', e', hg', hb g' _ (by omega) hcu', rest⟩, hGG, hTT.1, hTT.2⟩)
              have Uz := Up.refl wr
              clear hxl hTT hGG A1 A2 HXL HPX HO1 HBu
              go_wp2_with fail
              have F132 := Lib.hid (fun w (u : Up wr w) => cellB (u.blk kC))
              have F133 := Lib.hid (fun w (u : Up wr w) => cellB (u.blk kZ))
              have F134 := Lib.hid (fun w (u : Up wr w) => cellB (u.blk kX))
              refine (wpIn_wide (n := 5)).1 ?_
              refine wpIn_nrm ?_
              refine T.regionQ (fun w' => Up wr w') 3 1 hmx (by kernel_rfl) (by kernel_rfl) ((Up.refl wr).drew) (fun hCl => ?_)
              refine T.qTake (i := 0) (d := (some 200)) (v := ?v51) rfl rfl (by kernel_rfl) (by decide) hCl (by kernel_rfl) (by kernel_rfl) (by kernel_rfl) (by rfl) ?hy51 (fun _ _ _ => trivial) (fun hCl' => ?_)
              case hy51 => (intro w hSw; refine T.qVal ?_ hSw; (have fF132 := F132.out w hSw; have fF133 := F133.out w hSw; have fF134 := F134.out w hSw); (try dsimp only [List.getElem_toArray, List.getElem_cons_succ, List.getElem_cons_zero]); go_simp; try with_reducible rfl)
              simp only [Act.put, List.setIfInBounds_toArray, List.set_cons_zero, List.set_cons_succ]
              replace hCl := hCl'; clear hCl'
              refine T.qTake (i := 1) (d := (some 201)) (v := ?v52) rfl rfl (by kernel_rfl) (by decide) hCl (by kernel_rfl) (by kernel_rfl) (by kernel_rfl) (by rfl) ?hy52 (fun _ _ _ => trivial) (fun hCl' => ?_)
              case hy52 => (intro w hSw; refine T.qVal ?_ hSw; (have fF132 := F132.out w hSw; have fF133 := F133.out w hSw; have fF134 := F134.out w hSw); (try dsimp only [List.getElem_toArray, List.getElem_cons_succ, List.getElem_cons_zero]); go_simp; try with_reducible rfl)
              simp only [Act.put, List.setIfInBounds_toArray, List.set_cons_zero, List.set_cons_succ]
              replace hCl := hCl'; clear hCl'
              refine T.qTake (i := 2) (d := (some 4)) (v := ?v53) rfl rfl (by kernel_rfl) (by decide) hCl (by kernel_rfl) (by kernel_rfl) (by kernel_rfl) (by rfl) ?hy53 (fun _ _ _ => trivial) (fun hCl' => ?_)
              case hy53 => (intro w hSw; refine T.qVal ?_ hSw; (have fF132 := F132.out w hSw; have fF133 := F133.out w hSw; have fF134 := F134.out w hSw); (try dsimp only [List.getElem_toArray, List.getElem_cons_succ, List.getElem_cons_zero]); go_simp; try with_reducible rfl)
              simp only [Act.put, List.setIfInBounds_toArray, List.set_cons_zero, List.set_cons_succ]
              replace hCl := hCl'; clear hCl'
              refine T.tail_intro (by kernel_rfl) (fun Y131 hY131 => ?_)
              replace U := U.trans hY131
              replace kC := hY131.blk kC
              replace kZ := hY131.blk kZ
              replace kX := hY131.blk kX
              replace Uz := Uz.trans hY131
              clear F132 F133 F134 hY131
              have zz := frozB kZ
              refine lastG (i := 3) (by kernel_rfl) rfl (by rfl) (by decide) (fun K hK => ?_)
              go_simp
              have KZ : mblk ((((Y131.setCell ⟨q0 + 1, 0, none⟩ (.int .i64 H)).setCell ⟨q0 + 1, 1, none⟩ (.slice (some ⟨gR, oR, none⟩) rs.length cR)).setCell ⟨q0 + 1, 2, none⟩ (.slice a os.length c)).setCell ⟨q0 + 1, 3, none⟩ (.slice a3 n c3)) (q0 + 1) = some (.cells #[.int .i64 H, .slice (some ⟨gR, oR, none⟩) rs.length cR, .slice a os.length c, .slice a3 n c3] 26 (0, 0)) := (blk_put (blk_put (blk_put (blk_put kZ 0 (.int .i64 H)) 1 (.slice (some ⟨gR, oR, none⟩) rs.length cR)) 2 (.slice a os.length c)) 3 (.slice a3 n c3))
              have UZ := ((((U.set (p := ⟨q0 + 1, 0, none⟩) (show w.heap.size ≤ q0 + 1 by omega) (.int .i64 H)).set (p := ⟨q0 + 1, 1, none⟩) (show w.heap.size ≤ q0 + 1 by omega) (.slice (some ⟨gR, oR, none⟩) rs.length cR)).set (p := ⟨q0 + 1, 2, none⟩) (show w.heap.size ≤ q0 + 1 by omega) (.slice a os.length c)).set (p := ⟨q0 + 1, 3, none⟩) (show w.heap.size ≤ q0 + 1 by omega) (.slice a3 n c3))
              have hb : T.But (q0 + 1) Y131 ((((Y131.setCell ⟨q0 + 1, 0, none⟩ (.int .i64 H)).setCell ⟨q0 + 1, 1, none⟩ (.slice (some ⟨gR, oR, none⟩) rs.length cR)).setCell ⟨q0 + 1, 2, none⟩ (.slice a os.length c)).setCell ⟨q0 + 1, 3, none⟩ (.slice a3 n c3)) := ((((T.But.refl _ _).set _).set _).set _).set _
              have FF := HF.out ((((Y131.setCell ⟨q0 + 1, 0, none⟩ (.int .i64 H)).setCell ⟨q0 + 1, 1, none⟩ (.slice (some ⟨gR, oR, none⟩) rs.length cR)).setCell ⟨q0 + 1, 2, none⟩ (.slice a os.length c)).setCell ⟨q0 + 1, 3, none⟩ (.slice a3 n c3)) (fun b o hne q => hb.blk b o hne (Uz.blk q))
              have HKZ := Lib.hid KZ
              have HUZ := Lib.hid UZ
              obtain ⟨WZ, hWZ⟩ : ∃ z, ((((Y131.setCell ⟨q0 + 1, 0, none⟩ (.int .i64 H)).setCell ⟨q0 + 1, 1, none⟩ (.slice (some ⟨gR, oR, none⟩) rs.length cR)).setCell ⟨q0 + 1, 2, none⟩ (.slice a os.length c)).setCell ⟨q0 + 1, 3, none⟩ (.slice a3 n c3)) = z := ⟨_, rfl⟩
              rw [hWZ] at HKZ HUZ FF
              try rw [hWZ]
              refine hK.out _ _ ?_
              clear hK K KZ UZ hWZ hb
              refine doneG (by kernel_rfl) ?_ _
              refine S.nrm_intro ?_
              have HFF := Lib.hid FF
              clear FF zz kZ kC kX
              go_wp2_with fail
              have cz := cellB HKZ.out
              exact bodyPost_ret (v := .tuple #[.slice (some ⟨go, 0, none⟩) rs.length co, ClV H (.slice (some ⟨gR, oR, none⟩) rs.length cR) (.slice a os.length c) (.slice a3 n c3)]) (by simp [results, Try.results33, go_sem, cz]) rfl ⟨⟨_, _, _, _, _, _, _, _, _, rows, T.dof rows, _, xs, rfl, HFF.out⟩, HUZ.out⟩
end

end Go.Proofs.Ytonklhfpjooheaa
