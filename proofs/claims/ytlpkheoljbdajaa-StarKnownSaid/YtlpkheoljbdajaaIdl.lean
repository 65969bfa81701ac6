import Derived.Test.YtlpkheoljbdajaaSeq
/- The contract of idle. -/
namespace Go.Proofs.Ytlpkheoljbdajaa
open Go.RowKit Go.Shelf
attribute [local go_sem] Oper.semAt_some
attribute [local go_sem ↓] lookLoad_eq lookStore_eq
attribute [local go_sem] run_lookLoad run_lookStore_row

theorem T.FromIs.sc {ts : List T.T4} {m : Int} {cs : Array Value} {r : Bool} (h : T.FromIs ts m cs r) : ∃ lo hi, T.SC cs lo hi ∧ T.Fin2 lo ∧ T.Fin2 hi := by
  rcases h with ⟨_, rfl, _⟩ | ⟨_, c1, c2, r2, f, g, _, _, _, _, b1, b2, hS⟩
  · exact ⟨_, _, SZ_sc, fun _ _ _ => ⟨by show -9223372036854775808 ≤ (0 : Int); omega, by show (0 : Int) ≤ 9223372036854775807; omega⟩, fun _ _ _ => ⟨by show -9223372036854775808 ≤ (0 : Int); omega, by show (0 : Int) ≤ 9223372036854775807; omega⟩⟩
  · refine ⟨_, _, hS, fun i _ _ => ?_, fun i _ _ => ?_⟩
    · have := b2 i
      unfold T.M at this
      exact ⟨by show -9223372036854775808 ≤ -g i; omega, by show -g i ≤ 9223372036854775807; omega⟩
    · have := b1 i
      unfold T.M at this
      exact ⟨by omega, by omega⟩
theorem results_lk2 {fn : Func} {p u : Tmp} (h : fn.results = #[.cell p 79, .tmp u]) (tmps : Array Value) (w : World) (g : Nat) (cs : Array Value) (hp : tmps.getD p undef = .pointer (some ⟨g, 0, none⟩)) (hg : mblk w g = some (.cells cs 79 (0, 0))) (hs : cs.size = 10) :
    (results fn tmps).run Try.prog w = .ok (.tuple #[.agg cs, tmps.getD u undef]) w := by
  rw [results_cell_tmp h, hp]
  simp only [asAddr, Sem.run_pure, Result.andThen_ok, run_loadVar_row w g 79 79 cs (0, 0) _ hg Try.underlying79 rfl (by rw [infoLks, hs])]
/-- is the same told of two webs? -/
def T.Same (ts ts' : List T.T4) : Prop := ∀ cs r cs' r', T.FromIs ts 0 cs r → T.FromIs ts' 0 cs' r' → cs = cs'
theorem T.same_iff {ts ts' : List T.T4} (W : T.Tin ts) (W' : T.Tin ts') {cs cs' : Array Value} {r r' : Bool} (h : T.FromIs ts 0 cs r) (h' : T.FromIs ts' 0 cs' r') : T.Same ts ts' ↔ cs = cs' :=
  ⟨fun q => q _ _ _ _ h h', fun e a b c d g g' => by rw [(g.uniq W h).1, (g'.uniq W' h').1, e]⟩
section
variable {N : Nat} {bl bh rl rh : Int} {aP aQ aL : Option Addr} {nP cP nQ cQ nL cL : Nat} {ps qs : List (Int × Int)} {ls : List T.T5} {o : Nat → Bool}
theorem BkC_st {j : Nat} (hj : j < 10) {M : Int} {P Q L : Value} : (BkC M bl bh rl rh P Q L o).setIfInBounds (8 + j) (.bool true) = BkC M bl bh rl rh P Q L (T.st o j true) := by
  match j, hj with
  | 0, _ => rfl
  | 1, _ => rfl
  | 2, _ => rfl
  | 3, _ => rfl
  | 4, _ => rfl
  | 5, _ => rfl
  | 6, _ => rfl
  | 7, _ => rfl
  | 8, _ => rfl
  | 9, _ => rfl
/-- what idle answers -/
def T.IdlR (N : Nat) (bl bh rl rh : Int) (ps qs : List (Int × Int)) (ls : List T.T5) (o : Nat → Bool) (e : Ending) : Prop :=
  (e = .returned (.tuple #[.agg (T.bc fun _ => false), .bool false]) ∧ ∀ y, ¬ T.Sat true (T.web N bl bh rl rh ps qs ls o) y) ∨
  ((∃ y, T.Sat true (T.web N bl bh rl rh ps qs ls o) y) ∧ ∃ s : Nat → Bool, e = .returned (.tuple #[.agg (T.bc s), .bool true]) ∧ ∀ j, s j = true ↔ (j < ls.length ∧ T.Same (T.web N bl bh rl rh ps qs ls o) (T.web N bl bh rl rh ps qs ls (T.st o j true))))
set_option maxRecDepth 100000 in
set_option maxHeartbeats 4000000 in
theorem idle_any {w : World} (I : Sps w (.slice aP nP cP) ps) (J : Sps w (.slice aQ nQ cQ) qs) (K : Lks w (.slice aL nL cL) ls) (h : T.valid N bl bh rl rh ps qs ls = true) :
    Calls Try.prog 79 #[BkV (N : Int) bl bh rl rh (.slice aP nP cP) (.slice aQ nQ cQ) (.slice aL nL cL) o] w fun e w' => T.IdlR N bl bh rl rh ps qs ls o e ∧ Up w w' := by
  have WW := fun s => T.valid_web h s
  have G := T.valid_bok h
  have l10 := G.l10
  have HN := Lib.hid (fun s w' (u : Up w w') => newWeb_any (o := s) G (I.up u) (J.up u) (K.up u))
  have HF := Lib.hid (fun s aT nT cT w0 w' (IT : Tis w0 (.slice aT nT cT) _) (u : Up w0 w') => from_told (N := (N : Int)) (bl := bl) (bh := bh) (rl := rl) (rh := rh) (aP := aP) (nP := nP) (cP := cP) (aQ := aQ) (nQ := nQ) (cQ := cQ) (aL := aL) (nL := nL) (cL := cL) (o := s) IT u (WW s) (m := 0) (.inl rfl))
  have HY := Lib.hid (fun cs r (h : T.FromIs (T.web N bl bh rl rh ps qs ls o) 0 cs r) => show (r = true ∧ ∃ y, T.Sat true (T.web N bl bh rl rh ps qs ls o) y) ∨ (r = false ∧ ∀ y, ¬ T.Sat true (T.web N bl bh rl rh ps qs ls o) y) from by
    rcases h.told (WW o) (.inl rfl) with ⟨e, lo, hi, _, h1, _⟩ | ⟨e, _, h1⟩
    · obtain ⟨⟨_, ⟨y, hy, _⟩, _⟩, _⟩ := h1 0 (.inl rfl)
      exact .inl ⟨e, y, hy⟩
    · exact .inr ⟨e, h1⟩)
  have HS := Lib.hid (fun j {cs cs' : Array Value} {r r' : Bool} (h : T.FromIs (T.web N bl bh rl rh ps qs ls o) 0 cs r) (h' : T.FromIs (T.web N bl bh rl rh ps qs ls (T.st o j true)) 0 cs' r') => T.same_iff (WW o).tin (WW (T.st o j true)).tin h h')
  have hn := K.len
  have HZ := Lib.hid SZ_size
  have HLZ : Hid ((#[.bool false, .bool false, .bool false, .bool false, .bool false, .bool false, .bool false, .bool false, .bool false, .bool false] : Array Value).size = 10) := Lib.hid rfl
  clear I J K h WW G
  subst hn
  go_enter Try.func79, Try.ntmps79
  go_wp2_with fail
  obtain ⟨W0, hW0⟩ : ∃ x, (w.alloc (.cells (BkC (N : Int) bl bh rl rh (.slice aP nP cP) (.slice aQ nQ cQ) (.slice aL ls.length cL) o) 81)).alloc (.cells #[.bool false, .bool false, .bool false, .bool false, .bool false, .bool false, .bool false, .bool false, .bool false, .bool false] 79) = x := ⟨_, rfl⟩
  obtain ⟨q0, e0⟩ : ∃ x, w.heap.size = x := ⟨_, rfl⟩
  obtain ⟨q1, e1⟩ : ∃ x, q0 + 1 = x := ⟨_, rfl⟩
  have U0 : Up w W0 := by rw [← hW0]; exact ((Up.refl w).alloc _).alloc _
  have kB : mblk W0 q0 = some (.cells (BkC (N : Int) bl bh rl rh (.slice aP nP cP) (.slice aQ nQ cQ) (.slice aL ls.length cL) o) 81 (0, 0)) := by rw [← hW0]; exact blk_keep _ (blk_new _ _ _ e0.symm)
  have kR : mblk W0 q1 = some (.cells #[.bool false, .bool false, .bool false, .bool false, .bool false, .bool false, .bool false, .bool false, .bool false, .bool false] 79 (0, 0)) := by rw [← hW0]; exact blk_new _ _ _ (by simp; omega)
  try rw [hW0, e0, e1]
  clear hW0
  refine (HN.out o W0 U0).mono ?_
  rintro e W1 ⟨⟨aT, nT, cT, rfl, hT, _⟩, u1⟩
  replace kB := u1.blk kB
  replace kR := u1.blk kR
  have UW := U0.trans u1
  have HT := Lib.hid hT
  clear u1 U0 hT
  go_wp2_with fail
  refine (HF.out o _ _ _ _ W1 HT.out (Up.refl W1)).mono ?_
  rintro e W2 ⟨⟨ca, r, rfl, hF, hok⟩, u2⟩
  replace kB := u2.blk kB
  replace kR := u2.blk kR
  replace UW := UW.trans u2
  have hQ := Lib.hid (HY.out ca r hF)
  have HFo := Lib.hid hF
  obtain ⟨W3, hW3⟩ : ∃ x, W2.alloc (.cells ca 147) = x := ⟨_, rfl⟩
  obtain ⟨q4, e4⟩ : ∃ x, W2.heap.size = x := ⟨_, rfl⟩
  have u3 : Up W2 W3 := by rw [← hW3]; exact (Up.refl W2).alloc _
  have kS : mblk W3 q4 = some (.cells ca 147 (0, 0)) := by rw [← hW3]; exact blk_new _ _ _ e4.symm
  have hsa := Lib.hid hok.1
  replace kB := u3.blk kB
  replace kR := u3.blk kR
  replace UW := UW.trans u3
  clear u2 u3 hF HT HY
  cases r with
  | false =>
    have hst2 := run_lookStore_row W3 q1 #[.bool false, .bool false, .bool false, .bool false, .bool false, .bool false, .bool false, .bool false, .bool false, .bool false] #[.bool false, .bool false, .bool false, .bool false, .bool false, .bool false, .bool false, .bool false, .bool false, .bool false] kR HLZ (ok10 fun _ => false)
    have kF := Lib.hid (blk_setRow kR #[.bool false, .bool false, .bool false, .bool false, .bool false, .bool false, .bool false, .bool false, .bool false, .bool false])
    have UF := Lib.hid (UW.grown (grown_row W3 q1 #[.bool false, .bool false, .bool false, .bool false, .bool false, .bool false, .bool false, .bool false, .bool false, .bool false]) (fun k e => by have := Option.some.inj e; omega))
    have HR := Lib.hid (show ∀ y, ¬ T.Sat true (T.web N bl bh rl rh ps qs ls o) y by rcases hQ.out with ⟨e, _⟩ | ⟨_, h⟩; cases e; exact h)
    clear hQ HFo HS HN HF kB kS
    go_wp2_with fail
    exact bodyPost_ret (results_lk2 rfl _ _ _ _ rfl kF.out rfl) rfl ⟨.inl ⟨rfl, HR.out⟩, UF.out⟩
  | true =>
    have HR := Lib.hid (show ∃ y, T.Sat true (T.web N bl bh rl rh ps qs ls o) y by rcases hQ.out with ⟨_, h⟩ | ⟨e, _⟩; exact h; cases e)
    clear hQ
    obtain ⟨W4, hW4⟩ : ∃ x, W3.alloc (.cells #[.bool false, .bool false, .bool false, .bool false, .bool false, .bool false, .bool false, .bool false, .bool false, .bool false] 79) = x := ⟨_, rfl⟩
    obtain ⟨q6, e6⟩ : ∃ x, W3.heap.size = x := ⟨_, rfl⟩
    have u4 : Up W3 W4 := by rw [← hW4]; exact (Up.refl W3).alloc _
    have kI : mblk W4 q6 = some (.cells (T.bc fun _ => false) 79 (0, 0)) := by rw [← hW4]; exact blk_new _ _ _ e6.symm
    have lB := blk_lt kB
    have lR := blk_lt kR
    have lS := blk_lt kS
    rw [e6] at lB lR lS
    have HKB := Lib.hid (u4.blk kB)
    have HKR := Lib.hid (u4.blk kR)
    have HKS := Lib.hid (u4.blk kS)
    have HUW := Lib.hid (UW.trans u4)
    have kB4 := u4.blk kB
    have kI0 := kI
    replace kI := Lib.hid kI
    clear u4 kB kR kS UW kI0
    go_wp2_with fail
    try rw [e6]
    clear hW4 kB4
    go_loopw [24] (fun iv wr => ∃ (j : Nat) (s : Nat → Bool), j ≤ ls.length ∧ iv = .int .i64 j ∧ mblk wr q6 = some (.cells (T.bc s) 79 (0, 0)) ∧ Hid (∀ i, s i = true ↔ (i < j ∧ T.Same (T.web N bl bh rl rh ps qs ls o) (T.web N bl bh rl rh ps qs ls (T.st o i true)))) ∧ W4.grownBy wr (some q6)) (fun iv _ => ls.length - (intOf iv).toNat)
    case atStart => exact ⟨0, fun _ => false, by omega, rfl, kI.out, Lib.hid (fun i => ⟨fun e => (by cases e), fun e => absurd e.1 (by omega)⟩), up_grown (Up.refl W4) _⟩
    case round =>
      clear kI
      obtain ⟨j, s, hj, rfl, kI, hs, hG⟩ := hrel
      have kB := grown_blk hG HKB.out (fun e => by have := Option.some.inj e; omega)
      have kR := grown_blk hG HKR.out (fun e => by have := Option.some.inj e; omega)
      have kS := grown_blk hG HKS.out (fun e => by have := Option.some.inj e; omega)
      by_cases hlt : j < ls.length
      · have hlt' : (j : Int) < ls.length := by omega
        have j10 : j < 10 := by omega
        have j10' : (j : Int) < 10 := by omega
        have hI := blk_lt kI
        obtain ⟨q8, e8⟩ : ∃ x, wr.heap.size = x := ⟨_, rfl⟩
        have kX := blk_new wr (.cells (BkC (N : Int) bl bh rl rh (.slice aP nP cP) (.slice aQ nQ cQ) (.slice aL ls.length cL) o) 81) _ e8.symm
        have fX := frozB kX
        have kX2 := blk_put kX (8 + j) (.bool true)
        rw [BkC_st j10] at kX2
        have cx : ∃ v, (wr.alloc (.cells (BkC (N : Int) bl bh rl rh (.slice aP nP cP) (.slice aQ nQ cQ) (.slice aL ls.length cL) o) 81)).cell? ⟨q8, 8 + j, none⟩ = some v := ⟨_, (cellB kX (8 + j)).trans (Array.getElem?_eq_getElem (show 8 + j < 18 by omega))⟩
        obtain ⟨vx, cx⟩ := cx
        have Ux : Up wr ((wr.alloc (.cells (BkC (N : Int) bl bh rl rh (.slice aP nP cP) (.slice aQ nQ cQ) (.slice aL ls.length cL) o) 81)).setCell ⟨q8, 8 + j, none⟩ (.bool true)) := ((Up.refl wr).alloc _).set (p := ⟨q8, 8 + j, none⟩) (by show wr.heap.size ≤ q8; omega) _
        obtain ⟨X1, hX1⟩ : ∃ x, (wr.alloc (.cells (BkC (N : Int) bl bh rl rh (.slice aP nP cP) (.slice aQ nQ cQ) (.slice aL ls.length cL) o) 81)).setCell ⟨q8, 8 + j, none⟩ (.bool true) = x := ⟨_, rfl⟩
        rw [hX1] at kX2 Ux
        rw [e8] at hI
        have HG := Lib.hid (grown_trans hG (up_grown Ux (some q6)))
        have HKI := Lib.hid (Ux.blk kI)
        have HUX := Lib.hid (HUW.out.grown (grown_trans hG (up_grown Ux (some q6))) (fun k e => by have := Option.some.inj e; omega))
        clear hG kI kR kS Ux
        go_wp2_with fail
        refine (HN.out (T.st o j true) X1 HUX.out).mono ?_
        rintro e X2 ⟨⟨aT2, nT2, cT2, rfl, hT, _⟩, u2⟩
        replace HKI := Lib.hid (u2.blk HKI.out)
        replace HG := Lib.hid (grown_trans HG.out (up_grown u2 (some q6)))
        have HT := Lib.hid hT
        clear u2 hT kX kX2 fX cx kB
        go_wp2_with fail
        refine (HF.out (T.st o j true) _ _ _ _ X2 HT.out (Up.refl X2)).mono ?_
        rintro e X3 ⟨⟨cb, r2, rfl, hF2, hok2⟩, u3⟩
        have hm := Lib.hid (HS.out j HFo.out hF2)
        have hsb := Lib.hid hok2.1
        obtain ⟨lo1, hi1, hS1, f1, g1⟩ := hF2.sc
        obtain ⟨lo2, hi2, hS2, f2, g2⟩ := HFo.out.sc
        obtain ⟨r, hr, heq⟩ := eqSps hS1 hS2 f1 g1 f2 g2
        obtain ⟨X4, hX4⟩ : ∃ x, X3.alloc (.cells cb 147) = x := ⟨_, rfl⟩
        obtain ⟨q9, e9⟩ : ∃ x, X3.heap.size = x := ⟨_, rfl⟩
        have u4 : Up X3 X4 := by rw [← hX4]; exact (Up.refl X3).alloc _
        have kV : mblk X4 q9 = some (.cells cb 147 (0, 0)) := by rw [← hX4]; exact blk_new _ _ _ e9.symm
        have kI := u4.blk (u3.blk HKI.out)
        replace HG := Lib.hid (grown_trans HG.out (up_grown (u3.trans u4) (some q6)))
        have kS := grown_blk HG.out HKS.out (fun e => by have := Option.some.inj e; omega)
        have kB := grown_blk HG.out HKB.out (fun e => by have := Option.some.inj e; omega)
        have fI := frozB kI
        have lI := blk_lt kI
        have lS2 := blk_lt kS
        have cy : ∃ v, X4.cell? ⟨q6, j, none⟩ = some v := ⟨_, (cellB kI j).trans (Array.getElem?_eq_getElem (show j < 10 from j10))⟩
        obtain ⟨vy, cy⟩ := cy
        have kI2 := blk_put kI j (.bool r)
        rw [T.bc_st s j10] at kI2
        have HK2 := Lib.hid kI2
        have HG2 := Lib.hid (grown_trans HG.out (grown_set X4 q6 j (.bool r)))
        have hs2 := Lib.hid (show ∀ i, T.st s j r i = true ↔ (i < j + 1 ∧ T.Same (T.web N bl bh rl rh ps qs ls o) (T.web N bl bh rl rh ps qs ls (T.st o i true))) from fun i => by
          unfold T.st
          by_cases e : i = j
          · subst e
            rw [if_pos rfl, hr]
            constructor
            · intro q; exact ⟨by omega, hm.out.2 q.symm⟩
            · intro q; exact (hm.out.1 q.2).symm
          · rw [if_neg e, hs.out i]
            constructor
            · intro q; exact ⟨by omega, q.2⟩
            · intro q; exact ⟨by omega, q.2⟩)
        clear u3 u4 hF2 hS1 hS2 f1 g1 f2 g2 hr hm kI2 hs HT
        go_wp2_with fail
        go_roundw
        case rel => exact ⟨j + 1, _, by omega, by go_num, HK2.out, hs2, HG2.out⟩
        case measure => simp [intOf]; omega
      · obtain rfl : j = ls.length := by omega
        have hlt' : ¬ ((ls.length : Nat) : Int) < ls.length := by omega
        have hok3 := ok10 s
        obtain ⟨ck, hck⟩ : ∃ x, T.bc s = x := ⟨_, rfl⟩
        have HCK := Lib.hid hck
        rw [hck] at kI hok3
        have hsz := Lib.hid hok3.1
        have hst2 := run_lookStore_row wr q1 #[.bool false, .bool false, .bool false, .bool false, .bool false, .bool false, .bool false, .bool false, .bool false, .bool false] ck kR HLZ hok3
        have kF := Lib.hid (blk_setRow kR ck)
        have UF := Lib.hid ((HUW.out.grown hG (fun k e => by have := Option.some.inj e; omega)).grown (grown_row wr q1 ck) (fun k e => by have := Option.some.inj e; omega))
        clear kB kS hG hck kR
        go_wp2_with fail
        refine bodyPost_ret (results_lk2 rfl _ _ _ _ rfl kF.out hsz.out) rfl ⟨.inr ⟨HR.out, s, by rw [HCK.out]; rfl, hs.out⟩, UF.out⟩
end

end Go.Proofs.Ytlpkheoljbdajaa
