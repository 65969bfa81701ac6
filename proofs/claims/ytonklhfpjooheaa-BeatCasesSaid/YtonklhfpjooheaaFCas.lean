import Derived.Test.YtonklhfpjooheaaBth
import Derived.Test.YtonklhfpjooheaaRit
import Derived.Test.YtonklhfpjooheaaHsI
import Derived.Test.YtonklhfpjooheaaLws
import Derived.Test.YtonklhfpjooheaaHeQ
/- The law BeatCases. -/
namespace Go.Proofs.Ytonklhfpjooheaa
open Go.RowKit Go.Shelf
attribute [local go_sem] Oper.semAt_some

section
variable {aR aO aP : Option Addr} {nR cR nO cO nP cP H : Nat} {Hi : Int} {rs : T.LR} {os : T.LO} {ps : T.LP}
theorem Case_none {w : World} {k h : Int} {most : Bool} (G : T.Good H rs os ps) (hk : 0 ≤ k ∧ k < rs.length) (hh : 0 ≤ h ∧ h ≤ H) (hno : ∀ y, ¬ T.Tr H rs os ps y) (I : Sps w (.slice aR nR cR) rs) (IO : Ops w (.slice aO nO cO) os) (IP : Prs w (.slice aP nP cP) ps) :
    Calls Try.prog 26 #[ClV H (.slice aR nR cR) (.slice aO nO cO) (.slice aP nP cP), .int .i64 k, .int .i64 h, .bool most] w fun e w' => e = .returned (.tuple #[.slice none 0 0, .int .i64 22]) ∧ Up w w' := by
  have hn := I.len
  subst hn
  have W := T.web_ok (b0 := false) (b1 := false) (b2 := false) (b3 := false) (b4 := false) G
  have hq := T.ask0 G (cl := [k]) (hr := [h]) (by simpa using hk) (by simpa using hh)
  have m0 := T.mom_0 (n := rs.length) (H := H)
  cases most with
  | true =>
    refine (Case_hi I IO IP W hq).mono ?_
    rintro e w' ⟨⟨v, n, cs, r, rfl, hF, hc⟩, u⟩
    rcases W.yes G.h2 G.r2 m0 hF with ⟨_, d, d1, _⟩ | ⟨hr, _, _⟩
    · exact absurd ((T.sat_tru G).1 d1) (hno _)
    · rcases hc with ⟨hr', _⟩ | ⟨_, rfl, rfl⟩
      · rw [hr] at hr'; cases hr'
      · exact ⟨rfl, u⟩
  | false =>
    refine (Case_lo I IO IP W hq).mono ?_
    rintro e w' ⟨⟨v, n, cs, r, rfl, hF, hc⟩, u⟩
    rcases W.yes' G.h2 G.r2 m0 hF with ⟨_, d, d1, _⟩ | ⟨hr, _, _⟩
    · exact absurd ((T.sat_tru G).1 d1) (hno _)
    · rcases hc with ⟨hr', _⟩ | ⟨_, rfl, rfl⟩
      · rw [hr] at hr'; cases hr'
      · exact ⟨rfl, u⟩
theorem cell_intc {w : World} {b : Nat} {cs : Array Value} (h : mblk w b = some (.cells cs 28 (0, 0))) (j : Nat) : w.cell? ⟨b, j, none⟩ = cs[j]? := cellB h j
theorem cell_spanc {w : World} {b : Nat} {cs : Array Value} (h : mblk w b = some (.cells cs 34 (0, 0))) (j : Nat) : w.cell? ⟨b, j, none⟩ = cs[j]? := cellB h j
attribute [local go_sem] cell_intc cell_spanc
set_option maxRecDepth 100000 in
set_option maxHeartbeats 8000000 in
set_option linter.unusedSimpArgs false in
theorem beatCases_any {n0 n1 : Int} {most : Bool} {w : World} (I : Sps w (.slice aR nR cR) rs) (IO : Ops w (.slice aO nO cO) os) (IP : Prs w (.slice aP nP cP) ps) :
    Calls Try.prog 5 #[ClV Hi (.slice aR nR cR) (.slice aO nO cO) (.slice aP nP cP), .agg #[.int .i64 n0, .int .i64 n1], .bool most] w fun e w' => e = .returned (.bool true) ∧ Up w w' := by
  have hn := I.len
  subst hn
  have HW := Lib.hid (fun w => l_works_any w)
  obtain ⟨l, h, e, hO⟩ := T.both_Offset (Hi := Hi) I IO IP n0 n1
  have hC := (hO w (Up.refl w)).2.2
  have HO := Lib.hid (fun w' u => (hO w' u).2.1)
  have hmx : Try.prog.follows .mixedOrders = true := by kernel_rfl
  have HS : (e ≠ 0 ∧ Hid (∀ w', Up w w' → Calls Try.prog 26 #[ClV Hi (.slice aR rs.length cR) (.slice aO nO cO) (.slice aP nP cP), .int .i64 n0, .int .i64 n1, .bool most] w' fun e' w'' => e' = .returned (.tuple #[.slice none 0 0, .int .i64 e]) ∧ Up w' w'')) ∨
      (e = 0 ∧ ∃ H k t : Nat, Hi = H ∧ n0 = k ∧ n1 = t ∧ k < rs.length ∧ t ≤ H ∧ T.Good H rs os ps ∧ T.Tells H rs os ps ((k : Int), (t : Int)) (-1, 0) l h 0 ∧ ∃ y, T.Tr H rs os ps y) := by
    rcases hC with ⟨hv, b1, b2, H, rfl, q⟩ | ⟨h0, rfl, rfl, hq⟩
    · have G := T.valid_good.1 hv
      have i1 := inB_iff.1 b1
      have i2 := inB_iff.1 b2
      rcases q.can with ⟨rfl, hy⟩ | ⟨rfl, rfl, rfl, hno⟩
      · obtain ⟨k, rfl⟩ := Int.eq_ofNat_of_zero_le i1.1
        obtain ⟨t, rfl⟩ := Int.eq_ofNat_of_zero_le i2.1
        exact .inr ⟨rfl, H, k, t, rfl, rfl, rfl, by omega, by omega, G, q, hy⟩
      · exact .inl ⟨by decide, Lib.hid fun w' u => Case_none G ⟨by omega, by omega⟩ ⟨by omega, by omega⟩ hno (I.up u) (IO.up u) (IP.up u)⟩
    · exact .inl ⟨h0, Lib.hid fun w' u => Case_bad (I.up u) (IO.up u) (IP.up u) hq h0⟩
  have HI := Lib.hid (And.intro I (And.intro IO IP))
  clear hO hC I IO IP
  go_enter Try.func5, Try.ntmps5
  have U := ((Up.refl w).alloc (.cells #[.int .i64 Hi, .slice aR rs.length cR, .slice aO nO cO, .slice aP nP cP] 26)).alloc (.cells #[.int .i64 n0, .int .i64 n1] 28)
  obtain ⟨q0, e0⟩ : ∃ x, w.heap.size = x := ⟨_, rfl⟩
  have kC := blk_keep (.cells #[.int .i64 n0, .int .i64 n1] 28) (blk_new w (.cells #[.int .i64 Hi, .slice aR rs.length cR, .slice aO nO cO, .slice aP nP cP] 26) q0 e0.symm)
  have kN := blk_new (w.alloc (.cells #[.int .i64 Hi, .slice aR rs.length cR, .slice aO nO cO, .slice aP nP cP] 26)) (.cells #[.int .i64 n0, .int .i64 n1] 28) (q0 + 1) (by simp [e0])
  rcases HS with ⟨h0, HC⟩ | ⟨rfl, H, k, t, rfl, rfl, rfl, hk, ht, G, q, hy⟩
  · skip
    have f1 : (e == 0) = false := by rw [beq_eq_false_iff_ne]; exact h0
    have f2 : (e != 0) = true := by rw [bne_iff_ne]; exact h0
    clear h0 HI
    go_wp2_with fail
    refine (HC.out _ U).mono ?_
    rintro e x1 ⟨rfl, u2⟩
    replace U := U.trans u2
    replace kC := u2.blk kC
    replace kN := u2.blk kN
    clear u2 
    go_wp2_with fail
    refine (HO.out _ U).mono ?_
    rintro e x3 ⟨rfl, u4⟩
    replace U := U.trans u4
    replace kC := u4.blk kC
    replace kN := u4.blk kN
    clear u4 
    have dkCks := blk_lt kC
    have dkNks := blk_lt kN
    have gks := U.size
    have ks := blk_new x3 (.cells #[.int .i64 l, .int .i64 h] 34) _ rfl
    replace kC := blk_keep (.cells #[.int .i64 l, .int .i64 h] 34) kC
    replace kN := blk_keep (.cells #[.int .i64 l, .int .i64 h] 34) kN
    replace U := U.alloc (.cells #[.int .i64 l, .int .i64 h] 34)
    obtain ⟨pks, hpks⟩ : ∃ z, x3.heap.size = z := ⟨_, rfl⟩
    obtain ⟨W5, hW5⟩ : ∃ z, x3.alloc (.cells #[.int .i64 l, .int .i64 h] 34) = z := ⟨_, rfl⟩
    rw [hpks] at ks dkCks dkNks gks
    rw [hW5] at ks U kC kN
    go_wp2_with fail
    clear hpks hW5
    refine (HW.out _).mono ?_
    rintro e x6 ⟨rfl, u7⟩
    replace U := U.trans u7
    replace kC := u7.blk kC
    replace kN := u7.blk kN
    replace ks := u7.blk ks
    clear u7 
    go_wp2
    go_ret
    exact ⟨rfl, U⟩
  · skip
    have G1 := G.h1
    have G2 := G.h2
    have G3 := G.r2
    have HC := Lib.hid (fun w' (u : Up w w') => Case_tells (most := most) G (k := (k : Int)) (h := (t : Int)) ⟨by omega, by omega⟩ ⟨by omega, by omega⟩ hy (HI.out.1.up u) (HI.out.2.1.up u) (HI.out.2.2.up u))
    have HG := Lib.hid G
    have HQ := Lib.hid q
    clear G q hy
    go_wp2_with fail
    refine (HC.out _ U).mono ?_
    rintro e x1 ⟨⟨v, rows, d, rfl, hR, hT, hTr, hD⟩, u2⟩
    replace U := U.trans u2
    replace kC := u2.blk kC
    replace kN := u2.blk kN
    clear u2 
    have hlr := hT.len
    have hrl := hT.rowk hk
    obtain ⟨want, hw⟩ : ∃ x, (if most = true then h else l) = x := ⟨_, rfl⟩
    have hval : (rows.getD k []).getD t 0 = want := (hT.val k t hk ht).trans ((hD _ _ l h (by omega) (by omega) (by omega) (by omega) HQ.out).trans hw)
    have hIT : ∀ (av : Option Addr) (n cv : Nat), T.Rows x1 (.slice av n cv) rows → ∀ w', Up x1 w' → Calls Try.prog 16 #[ClV H (.slice aR rs.length cR) (.slice aO nO cO) (.slice aP nP cP), .slice av n cv] w' fun e' w'' => e' = .returned (.tuple #[.bool true, .int .i64 0]) ∧ Up w' w'' := by
      intro av n cv hR w' u
      refine (r_IsTruth_any HG.out (HI.out.1.up (U.trans u)) (HI.out.2.1.up (U.trans u)) (HI.out.2.2.up (U.trans u)) (hR.up u)).mono ?_
      rintro e' y ⟨⟨r, rfl, hr⟩, u'⟩
      rw [hr.2 ⟨⟨hT.len, hT.row⟩, hTr.congr HG.out (by rw [T.offs0, hT.zero]) (fun k h a b c e => hT.offs ⟨a, b⟩ ⟨c, e⟩)⟩]
      exact ⟨rfl, u'⟩
    obtain ⟨av, cv, rfl, v1, v2, hrw⟩ := hR.is
    have HIT := Lib.hid (hIT av _ cv hR)
    obtain ⟨gV, oV, hga, hgl, hx⟩ := hrw (by omega)
    subst hga
    obtain ⟨u1, cu, IL⟩ := hx k (by omega)
    obtain ⟨ak, ck, rfl, lk1, lk2, hmk⟩ := IL.is
    obtain ⟨gk, ok, hgk, hgkl, hxk⟩ := hmk (by omega)
    subst hgk
    have cw := hxk t (by omega)
    rw [hval] at cw
    clear hx IL hmk hxk hrw hIT hD hTr hval hT hR hgl hgkl lk1 v1
    obtain ⟨n, hnn⟩ : ∃ n, rows.length = n := ⟨_, rfl⟩
    obtain ⟨len, hln⟩ : ∃ z, (rows.getD k []).length = z := ⟨_, rfl⟩
    rw [hnn] at HIT v2 ⊢
    rw [hln] at cu lk2
    have ilt : (k : Int) < (n : Int) := by omega
    have ilt2 : (t : Int) < (len : Int) := by omega
    have dn : decide ((n : Int) ≤ (k : Int)) = false := decide_eq_false (by omega)
    have HCU := Lib.hid (fun w' (u : Up x1 w') => And.intro (u.cell2 cu) (u.cell2 cw))
    have HWT := Lib.hid hw
    have Ux := Up.refl x1
    clear cu cw hw hnn hln hlr hrl hk ht HI HG HQ
    go_wp2_with fail
    refine (HO.out _ U).mono ?_
    rintro e x3 ⟨rfl, u4⟩
    replace U := U.trans u4
    replace kC := u4.blk kC
    replace kN := u4.blk kN
    replace Ux := Ux.trans u4
    clear u4 
    have dkCks := blk_lt kC
    have dkNks := blk_lt kN
    have gks := U.size
    have ks := blk_new x3 (.cells #[.int .i64 l, .int .i64 h] 34) _ rfl
    replace kC := blk_keep (.cells #[.int .i64 l, .int .i64 h] 34) kC
    replace kN := blk_keep (.cells #[.int .i64 l, .int .i64 h] 34) kN
    replace U := U.alloc (.cells #[.int .i64 l, .int .i64 h] 34)
    replace Ux := Ux.alloc (.cells #[.int .i64 l, .int .i64 h] 34)
    obtain ⟨pks, hpks⟩ : ∃ z, x3.heap.size = z := ⟨_, rfl⟩
    obtain ⟨W5, hW5⟩ : ∃ z, x3.alloc (.cells #[.int .i64 l, .int .i64 h] 34) = z := ⟨_, rfl⟩
    rw [hpks] at ks dkCks dkNks gks
    rw [hW5] at ks U kC kN Ux
    go_wp2_with fail
    clear hpks hW5
    refine (HIT.out _ Ux).mono ?_
    rintro e x6 ⟨rfl, u7⟩
    replace U := U.trans u7
    replace kC := u7.blk kC
    replace kN := u7.blk kN
    replace ks := u7.blk ks
    replace Ux := Ux.trans u7
    clear u7 
    have HUx := Lib.hid Ux
    cases most with
    | false =>
      obtain rfl := HWT.out
      clear HWT Ux
      go_wp2_with fail
      clear kC
      have F9 := Lib.hid (fun w (u : Up x6 w) => cellB (u.blk kN))
      have F10 := Lib.hid (fun w (u : Up x6 w) => cellB (u.blk ks))
      refine (wpIn_wide (n := 5)).1 ?_
      refine wpIn_nrm ?_
      refine T.regionQ (fun w' => Up x6 w') 14 1 hmx (by kernel_rfl) (by kernel_rfl) ((Up.refl x6).drew) (fun hCl => ?_)
      refine T.qT 0 (some 64) ?v1 rfl rfl hCl ?hy1 (fun hCl' => ?_)
      case hy1 => (intro w hSw; refine T.qVal ?_ hSw; go_simp; try with_reducible rfl)
      simp only [Act.put, List.setIfInBounds_toArray, List.set_cons_zero, List.set_cons_succ]; replace hCl := hCl'; clear hCl'
      refine T.qT 1 (some 65) ?v2 rfl rfl hCl ?hy2 (fun hCl' => ?_)
      case hy2 => (intro w hSw; refine T.qVal ?_ hSw; go_simp; try with_reducible rfl)
      simp only [Act.put, List.setIfInBounds_toArray, List.set_cons_zero, List.set_cons_succ]; replace hCl := hCl'; clear hCl'
      refine T.qT 5 (some 69) ?v3 rfl rfl hCl ?hy3 (fun hCl' => ?_)
      case hy3 => (intro w hSw; refine T.qVal ?_ hSw; go_simp; try with_reducible rfl)
      simp only [Act.put, List.setIfInBounds_toArray, List.set_cons_zero, List.set_cons_succ]; replace hCl := hCl'; clear hCl'
      refine T.qT 9 (some 73) ?v4 rfl rfl hCl ?hy4 (fun hCl' => ?_)
      case hy4 => (intro w hSw; refine T.qVal ?_ hSw; go_simp; try with_reducible rfl)
      simp only [Act.put, List.setIfInBounds_toArray, List.set_cons_zero, List.set_cons_succ]; replace hCl := hCl'; clear hCl'
      refine T.qT 2 (some 66) ?v5 rfl rfl hCl ?hy5 (fun hCl' => ?_)
      case hy5 => (intro w hSw; refine T.qVal ?_ hSw; (have fF9 := F9.out w hSw; have fF10 := F10.out w hSw; obtain ⟨z1, z2⟩ := HCU.out w (HUx.out.trans hSw)); go_simp; try with_reducible rfl)
      simp only [Act.put, List.setIfInBounds_toArray, List.set_cons_zero, List.set_cons_succ]; replace hCl := hCl'; clear hCl'
      refine T.qT 6 (some 70) ?v6 rfl rfl hCl ?hy6 (fun hCl' => ?_)
      case hy6 => (intro w hSw; refine T.qVal ?_ hSw; (have fF9 := F9.out w hSw; have fF10 := F10.out w hSw; obtain ⟨z1, z2⟩ := HCU.out w (HUx.out.trans hSw)); go_simp; try with_reducible rfl)
      simp only [Act.put, List.setIfInBounds_toArray, List.set_cons_zero, List.set_cons_succ]; replace hCl := hCl'; clear hCl'
      refine T.qT 3 (some 67) ?v7 rfl rfl hCl ?hy7 (fun hCl' => ?_)
      case hy7 => (intro w hSw; refine T.qVal ?_ hSw; go_simp; try with_reducible rfl)
      simp only [Act.put, List.setIfInBounds_toArray, List.set_cons_zero, List.set_cons_succ]; replace hCl := hCl'; clear hCl'
      refine T.qT 4 (some 68) ?v8 rfl rfl hCl ?hy8 (fun hCl' => ?_)
      case hy8 => (intro w hSw; refine T.qVal ?_ hSw; (have fF9 := F9.out w hSw; have fF10 := F10.out w hSw; obtain ⟨z1, z2⟩ := HCU.out w (HUx.out.trans hSw)); go_simp; try with_reducible rfl)
      simp only [Act.put, List.setIfInBounds_toArray, List.set_cons_zero, List.set_cons_succ]; replace hCl := hCl'; clear hCl'
      refine T.qT 7 (some 71) ?v9 rfl rfl hCl ?hy9 (fun hCl' => ?_)
      case hy9 => (intro w hSw; refine T.qVal ?_ hSw; go_simp; try with_reducible rfl)
      simp only [Act.put, List.setIfInBounds_toArray, List.set_cons_zero, List.set_cons_succ]; replace hCl := hCl'; clear hCl'
      refine T.qT 8 (some 72) ?v10 rfl rfl hCl ?hy10 (fun hCl' => ?_)
      case hy10 => (intro w hSw; refine T.qVal ?_ hSw; (have fF9 := F9.out w hSw; have fF10 := F10.out w hSw; obtain ⟨z1, z2⟩ := HCU.out w (HUx.out.trans hSw)); go_simp; try with_reducible rfl)
      simp only [Act.put, List.setIfInBounds_toArray, List.set_cons_zero, List.set_cons_succ]; replace hCl := hCl'; clear hCl'
      refine T.qT 10 (some 74) ?v11 rfl rfl hCl ?hy11 (fun hCl' => ?_)
      case hy11 => (intro w hSw; refine T.qVal ?_ hSw; go_simp; try with_reducible rfl)
      simp only [Act.put, List.setIfInBounds_toArray, List.set_cons_zero, List.set_cons_succ]; replace hCl := hCl'; clear hCl'
      refine T.qT 11 (some 75) ?v12 rfl rfl hCl ?hy12 (fun hCl' => ?_)
      case hy12 => (intro w hSw; refine T.qVal ?_ hSw; go_simp; try with_reducible rfl)
      simp only [Act.put, List.setIfInBounds_toArray, List.set_cons_zero, List.set_cons_succ]; replace hCl := hCl'; clear hCl'
      refine T.qT 12 (some 76) ((.bool true)) rfl rfl hCl ?hy13 (fun hCl' => ?_)
      case hy13 => (intro w hSw; (have fF9 := F9.out w hSw; have fF10 := F10.out w hSw; obtain ⟨z1, z2⟩ := HCU.out w (HUx.out.trans hSw)); go_simp; (refine (callsIn_wide.2 (HW.out w)).mono ?_; rintro e w3 ⟨rfl, u3⟩; exact ⟨rfl, hSw.trans u3⟩))
      simp only [Act.put, List.setIfInBounds_toArray, List.set_cons_zero, List.set_cons_succ]
      replace hCl := hCl'; clear hCl'
      refine T.qT 13 (some 77) ?v14 rfl rfl hCl ?hy14 (fun hCl' => ?_)
      case hy14 => (intro w hSw; refine T.qVal ?_ hSw; go_simp; try with_reducible rfl)
      simp only [Act.put, List.setIfInBounds_toArray, List.set_cons_zero, List.set_cons_succ]; replace hCl := hCl'; clear hCl'
      refine T.tail_intro (by kernel_rfl) (fun Y8 hY8 => ?_)
      replace U := U.trans hY8
      replace kN := hY8.blk kN
      replace ks := hY8.blk ks
      clear F9 F10 hY8
      refine lastG (i := 14) (by kernel_rfl) rfl (by rfl) (by decide) (fun K hK => ?_)
      go_simp
      refine hK.out _ _ ?_
      clear hK K
      refine doneG (by kernel_rfl) ?_ _
      refine S.nrm_intro ?_
      go_wp2
      go_ret
      exact ⟨rfl, U⟩
    | true =>
      obtain rfl := HWT.out
      clear HWT Ux
      go_wp2_with fail
      clear kC
      have F9 := Lib.hid (fun w (u : Up x6 w) => cellB (u.blk kN))
      have F10 := Lib.hid (fun w (u : Up x6 w) => cellB (u.blk ks))
      refine (wpIn_wide (n := 5)).1 ?_
      refine wpIn_nrm ?_
      refine T.regionQ (fun w' => Up x6 w') 14 1 hmx (by kernel_rfl) (by kernel_rfl) ((Up.refl x6).drew) (fun hCl => ?_)
      refine T.qT 0 (some 64) ?v15 rfl rfl hCl ?hy15 (fun hCl' => ?_)
      case hy15 => (intro w hSw; refine T.qVal ?_ hSw; go_simp; try with_reducible rfl)
      simp only [Act.put, List.setIfInBounds_toArray, List.set_cons_zero, List.set_cons_succ]; replace hCl := hCl'; clear hCl'
      refine T.qT 1 (some 65) ?v16 rfl rfl hCl ?hy16 (fun hCl' => ?_)
      case hy16 => (intro w hSw; refine T.qVal ?_ hSw; go_simp; try with_reducible rfl)
      simp only [Act.put, List.setIfInBounds_toArray, List.set_cons_zero, List.set_cons_succ]; replace hCl := hCl'; clear hCl'
      refine T.qT 5 (some 69) ?v17 rfl rfl hCl ?hy17 (fun hCl' => ?_)
      case hy17 => (intro w hSw; refine T.qVal ?_ hSw; go_simp; try with_reducible rfl)
      simp only [Act.put, List.setIfInBounds_toArray, List.set_cons_zero, List.set_cons_succ]; replace hCl := hCl'; clear hCl'
      refine T.qT 9 (some 73) ?v18 rfl rfl hCl ?hy18 (fun hCl' => ?_)
      case hy18 => (intro w hSw; refine T.qVal ?_ hSw; go_simp; try with_reducible rfl)
      simp only [Act.put, List.setIfInBounds_toArray, List.set_cons_zero, List.set_cons_succ]; replace hCl := hCl'; clear hCl'
      refine T.qT 2 (some 66) ?v19 rfl rfl hCl ?hy19 (fun hCl' => ?_)
      case hy19 => (intro w hSw; refine T.qVal ?_ hSw; (have fF9 := F9.out w hSw; have fF10 := F10.out w hSw; obtain ⟨z1, z2⟩ := HCU.out w (HUx.out.trans hSw)); go_simp; try with_reducible rfl)
      simp only [Act.put, List.setIfInBounds_toArray, List.set_cons_zero, List.set_cons_succ]; replace hCl := hCl'; clear hCl'
      refine T.qT 6 (some 70) ?v20 rfl rfl hCl ?hy20 (fun hCl' => ?_)
      case hy20 => (intro w hSw; refine T.qVal ?_ hSw; (have fF9 := F9.out w hSw; have fF10 := F10.out w hSw; obtain ⟨z1, z2⟩ := HCU.out w (HUx.out.trans hSw)); go_simp; try with_reducible rfl)
      simp only [Act.put, List.setIfInBounds_toArray, List.set_cons_zero, List.set_cons_succ]; replace hCl := hCl'; clear hCl'
      refine T.qT 3 (some 67) ?v21 rfl rfl hCl ?hy21 (fun hCl' => ?_)
      case hy21 => (intro w hSw; refine T.qVal ?_ hSw; go_simp; try with_reducible rfl)
      simp only [Act.put, List.setIfInBounds_toArray, List.set_cons_zero, List.set_cons_succ]; replace hCl := hCl'; clear hCl'
      refine T.qT 4 (some 68) ?v22 rfl rfl hCl ?hy22 (fun hCl' => ?_)
      case hy22 => (intro w hSw; refine T.qVal ?_ hSw; (have fF9 := F9.out w hSw; have fF10 := F10.out w hSw; obtain ⟨z1, z2⟩ := HCU.out w (HUx.out.trans hSw)); go_simp; try with_reducible rfl)
      simp only [Act.put, List.setIfInBounds_toArray, List.set_cons_zero, List.set_cons_succ]; replace hCl := hCl'; clear hCl'
      refine T.qT 7 (some 71) ?v23 rfl rfl hCl ?hy23 (fun hCl' => ?_)
      case hy23 => (intro w hSw; refine T.qVal ?_ hSw; go_simp; try with_reducible rfl)
      simp only [Act.put, List.setIfInBounds_toArray, List.set_cons_zero, List.set_cons_succ]; replace hCl := hCl'; clear hCl'
      refine T.qT 8 (some 72) ?v24 rfl rfl hCl ?hy24 (fun hCl' => ?_)
      case hy24 => (intro w hSw; refine T.qVal ?_ hSw; (have fF9 := F9.out w hSw; have fF10 := F10.out w hSw; obtain ⟨z1, z2⟩ := HCU.out w (HUx.out.trans hSw)); go_simp; try with_reducible rfl)
      simp only [Act.put, List.setIfInBounds_toArray, List.set_cons_zero, List.set_cons_succ]; replace hCl := hCl'; clear hCl'
      refine T.qT 10 (some 74) ?v25 rfl rfl hCl ?hy25 (fun hCl' => ?_)
      case hy25 => (intro w hSw; refine T.qVal ?_ hSw; go_simp; try with_reducible rfl)
      simp only [Act.put, List.setIfInBounds_toArray, List.set_cons_zero, List.set_cons_succ]; replace hCl := hCl'; clear hCl'
      refine T.qT 11 (some 75) ?v26 rfl rfl hCl ?hy26 (fun hCl' => ?_)
      case hy26 => (intro w hSw; refine T.qVal ?_ hSw; go_simp; try with_reducible rfl)
      simp only [Act.put, List.setIfInBounds_toArray, List.set_cons_zero, List.set_cons_succ]; replace hCl := hCl'; clear hCl'
      refine T.qT 12 (some 76) ((.bool true)) rfl rfl hCl ?hy27 (fun hCl' => ?_)
      case hy27 => (intro w hSw; (have fF9 := F9.out w hSw; have fF10 := F10.out w hSw; obtain ⟨z1, z2⟩ := HCU.out w (HUx.out.trans hSw)); go_simp; (refine (callsIn_wide.2 (HW.out w)).mono ?_; rintro e w3 ⟨rfl, u3⟩; exact ⟨rfl, hSw.trans u3⟩))
      simp only [Act.put, List.setIfInBounds_toArray, List.set_cons_zero, List.set_cons_succ]
      replace hCl := hCl'; clear hCl'
      refine T.qT 13 (some 77) ?v28 rfl rfl hCl ?hy28 (fun hCl' => ?_)
      case hy28 => (intro w hSw; refine T.qVal ?_ hSw; go_simp; try with_reducible rfl)
      simp only [Act.put, List.setIfInBounds_toArray, List.set_cons_zero, List.set_cons_succ]; replace hCl := hCl'; clear hCl'
      refine T.tail_intro (by kernel_rfl) (fun Y8 hY8 => ?_)
      replace U := U.trans hY8
      replace kN := hY8.blk kN
      replace ks := hY8.blk ks
      clear F9 F10 hY8
      refine lastG (i := 14) (by kernel_rfl) rfl (by rfl) (by decide) (fun K hK => ?_)
      go_simp
      refine hK.out _ _ ?_
      clear hK K
      refine doneG (by kernel_rfl) ?_ _
      refine S.nrm_intro ?_
      go_wp2
      go_ret
      exact ⟨rfl, U⟩
end

end Go.Proofs.Ytonklhfpjooheaa
