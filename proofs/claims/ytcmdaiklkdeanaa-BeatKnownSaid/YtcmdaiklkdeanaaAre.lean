import Derived.Test.YtcmdaiklkdeanaaBes
/- The contract of areTruth. -/
namespace Go.Proofs.Ytcmdaiklkdeanaa
open Go.RowKit Go.Shelf
attribute [local go_sem] Oper.semAt_some

/-- do offsets keep to a tie? -/
def T.keep (o : Int × Int → Int) (t : T.T6) : Bool := inB (IntKind.i64.wrap (o (T.one t) - o (T.oth t))) (T.by t).1 (T.by t).2
section
variable {H : Nat} {aR aO aP aT : Option Addr} {nR cR nO cO nP cP nT cT : Nat} {b0 b1 b2 b3 b4 : Bool}
set_option maxRecDepth 100000 in
set_option maxHeartbeats 2000000 in
theorem areTruth_any {w : World} {ts : List T.T6} {cs : Array Value} {o : Int × Int → Int} (I : Tis w (.slice aT nT cT) ts) (hts : T.Tok ts) (hl : ts.length ≤ 5000) (hO : T.OC cs o) :
    Calls Try.prog 46 #[WeV H (.slice aR nR cR) (.slice aO nO cO) (.slice aP nP cP) b0 b1 b2 b3 b4 (.slice aT nT cT), .agg cs] w fun e w' => e = .returned (.bool (ts.all (T.keep o))) ∧ Up w w' := by
  have hn := I.len
  have HI := Lib.hid I
  have HT := Lib.hid hts
  have HO := Lib.hid hO
  have hok := hO.one
  have hsz := Lib.hid hO.size
  subst hn
  clear I hts hO
  refine (callsIn_wide (n := 5)).1 ?_
  refine callsIn_of_wp Try.func46 rfl trivial ?_ rfl
  simp only [Try.ntmps46, List.size_toArray, List.length_cons, List.length_nil, Nat.reduceAdd, Nat.reduceSub, Array.replicate_succ, Array.replicate_zero, List.push_toArray, List.append_toArray, List.nil_append, List.cons_append]
  gi_wp2_with fail
  obtain ⟨W0, hW0⟩ : ∃ x, (w.alloc (.cells (WeC H (.slice aR nR cR) (.slice aO nO cO) (.slice aP nP cP) b0 b1 b2 b3 b4 (.slice aT ts.length cT)) 82)).alloc (.cells cs 87) = x := ⟨_, rfl⟩
  obtain ⟨q0, e0⟩ : ∃ x, w.heap.size = x := ⟨_, rfl⟩
  obtain ⟨q1, e1⟩ : ∃ x, q0 + 1 = x := ⟨_, rfl⟩
  have U0 : Up w W0 := by rw [← hW0]; exact ((Up.refl w).alloc _).alloc _
  have kO : mblk W0 q1 = some (.cells cs 87 (0, 0)) := by rw [← hW0]; exact blk_new _ _ _ (by simp; omega)
  rw [hW0, e0, e1]
  clear hW0
  gi_loopw [10] (fun i wr => ∃ k : Nat, k ≤ ts.length ∧ i = .int .i64 k ∧ Hid (ts.all (T.keep o) = (ts.drop k).all (T.keep o)) ∧ Up w wr ∧ mblk wr q1 = some (.cells cs 87 (0, 0))) (fun i _ => ts.length - (intOf i).toNat)
  case atStart => exact ⟨0, Nat.zero_le _, rfl, Lib.hid rfl, U0, kO⟩
  case round =>
    clear U0 kO
    obtain ⟨k, hk, rfl, hall, V, kO⟩ := hrel
    by_cases hlt : k < ts.length
    · obtain ⟨g, off, rfl, gl, hc⟩ := (HI.out.up V).at (by omega)
      have x0 := hc k hlt 0 (by omega)
      have x1 := hc k hlt 1 (by omega)
      have x2 := hc k hlt 2 (by omega)
      have x3 := hc k hlt 3 (by omega)
      have x4 := hc k hlt 4 (by omega)
      have x5 := hc k hlt 5 (by omega)
      have hmem : ts.getD k (0, 0, 0, 0, 0, 0) ∈ ts := by rw [List.getD_eq_getElem?_getD, List.getElem?_eq_getElem hlt]; exact List.getElem_mem hlt
      obtain ⟨i1, i2, i3⟩ := HT.out _ hmem
      have hdr := Lib.hid (all_drop' (p := T.keep o) (d := (0, 0, 0, 0, 0, 0)) hlt)
      clear hc hmem
      generalize ts.getD k (0, 0, 0, 0, 0, 0) = z at *
      obtain ⟨c, h, c', h', l, u⟩ := z
      replace i1 : T.in6 (c, h) := i1
      replace i2 : T.in6 (c', h') := i2
      simp only [T.encT, Nat.add_zero] at x0 x1 x2 x3 x4 x5
      have v1 := HO.out.at_ _ i1
      have v2 := HO.out.at_ _ i2
      obtain ⟨n1, hn1⟩ : ∃ x, o (c, h) = x := ⟨_, rfl⟩
      obtain ⟨n2, hn2⟩ : ∃ x, o (c', h') = x := ⟨_, rfl⟩
      rw [hn1] at v1
      rw [hn2] at v2
      replace hdr := Lib.hid (show (ts.drop k).all (T.keep o) = (inB (IntKind.i64.wrap (n1 - n2)) l u && (ts.drop (k + 1)).all (T.keep o)) by rw [hdr.out]; unfold T.keep; show (inB (IntKind.i64.wrap (o (c, h) - o (c', h'))) l u && _) = _; rw [hn1, hn2])
      have P1 := Lib.hid (fun w => oat_any (B := q1) (w := w) i1)
      have P2 := Lib.hid (fun w => oat_any (B := q1) (w := w) i2)
      obtain ⟨p1, hp1⟩ : ∃ x, T.pl (c, h) = x := ⟨_, rfl⟩
      obtain ⟨p2, hp2⟩ : ∃ x, T.pl (c', h') = x := ⟨_, rfl⟩
      rw [hp1] at v1 P1
      rw [hp2] at v2 P2
      clear i1 i2 i3 hn1 hn2 hp1 hp2 HT HI
      have lO := blk_lt kO
      gi_wp2_with fail
      obtain ⟨W1, hW1⟩ : ∃ x, wr.alloc (.cells (TiC c h c' h' l u) 125) = x := ⟨_, rfl⟩
      have V1 : Up wr W1 := by rw [← hW1]; exact (Up.refl wr).alloc _
      have kt : mblk W1 wr.heap.size = some (.cells (TiC c h c' h' l u) 125 (0, 0)) := by rw [← hW1]; exact blk_new _ _ _ rfl
      obtain ⟨q, hq⟩ : ∃ x, wr.heap.size = x := ⟨_, rfl⟩
      rw [hq] at kt
      replace kO := V1.blk kO
      replace V := V.trans V1
      try rw [hW1, hq]
      clear hW1 V1 hq x0 x1 x2 x3 x4 x5
      have hmx : Try.prog.follows .mixedOrders = true := by kernel_rfl
      have F1 := Lib.hid (fun w (u : Up W1 w) => show w.cell? ⟨q1, p1, none⟩ = some (.int .i64 n1) from (cellB (u.blk kO) p1).trans v1)
      have F2 := Lib.hid (fun w (u : Up W1 w) => show w.cell? ⟨q1, p2, none⟩ = some (.int .i64 n2) from (cellB (u.blk kO) p2).trans v2)
      have F3 := Lib.hid (fun w (u : Up W1 w) => cellB (u.blk kt))
      clear v1 v2
      refine wpIn_nrm ?_
      refine T.regionQ (fun w' => Up W1 w') 18 1 hmx (by kernel_rfl) (by kernel_rfl) ((Up.refl W1).drew) (fun hCl => ?_)
      refine T.qTake (i := 0) (d := (some 14)) (v := ?v1) rfl rfl (by kernel_rfl) (by decide) hCl (by kernel_rfl) (by kernel_rfl) (by kernel_rfl) (by rfl) ?hy1 (fun _ _ _ => trivial) (fun hCl' => ?_)
      case hy1 => (intro w hSw; refine T.qVal ?_ hSw; (have f1 := F1.out w hSw; have f2 := F2.out w hSw; have f3 := F3.out w hSw); go_simp; try with_reducible rfl)
      simp only [Act.put, List.setIfInBounds_toArray, List.set_cons_zero, List.set_cons_succ]
      replace hCl := hCl'; clear hCl'
      refine T.qTake (i := 1) (d := (some 15)) (v := ?v2) rfl rfl (by kernel_rfl) (by decide) hCl (by kernel_rfl) (by kernel_rfl) (by kernel_rfl) (by rfl) ?hy2 (fun _ _ _ => trivial) (fun hCl' => ?_)
      case hy2 => (intro w hSw; refine T.qVal ?_ hSw; (have f1 := F1.out w hSw; have f2 := F2.out w hSw; have f3 := F3.out w hSw); go_simp; try with_reducible rfl)
      simp only [Act.put, List.setIfInBounds_toArray, List.set_cons_zero, List.set_cons_succ]
      replace hCl := hCl'; clear hCl'
      refine T.qTake (i := 2) (d := (some 16)) (v := (.pointer (some ⟨q1, p1, none⟩))) rfl rfl (by kernel_rfl) (by decide) hCl (by kernel_rfl) (by kernel_rfl) (by kernel_rfl) (by rfl) ?hy3 (fun _ _ _ => trivial) (fun hCl' => ?_)
      case hy3 => (intro w hSw; (have f1 := F1.out w hSw; have f2 := F2.out w hSw; have f3 := F3.out w hSw); go_simp; (refine (callsIn_wide.2 (P1.out w)).mono ?_; rintro e w3 ⟨rfl, u3⟩; exact ⟨rfl, hSw.trans u3⟩))
      simp only [Act.put, List.setIfInBounds_toArray, List.set_cons_zero, List.set_cons_succ]
      replace hCl := hCl'; clear hCl'
      refine T.qTake (i := 3) (d := (some 17)) (v := ?v4) rfl rfl (by kernel_rfl) (by decide) hCl (by kernel_rfl) (by kernel_rfl) (by kernel_rfl) (by rfl) ?hy4 (fun _ _ _ => trivial) (fun hCl' => ?_)
      case hy4 => (intro w hSw; refine T.qVal ?_ hSw; (have f1 := F1.out w hSw; have f2 := F2.out w hSw; have f3 := F3.out w hSw); go_simp; try with_reducible rfl)
      simp only [Act.put, List.setIfInBounds_toArray, List.set_cons_zero, List.set_cons_succ]
      replace hCl := hCl'; clear hCl'
      refine T.qTake (i := 4) (d := (some 18)) (v := ?v5) rfl rfl (by kernel_rfl) (by decide) hCl (by kernel_rfl) (by kernel_rfl) (by kernel_rfl) (by rfl) ?hy5 (fun _ _ _ => trivial) (fun hCl' => ?_)
      case hy5 => (intro w hSw; refine T.qVal ?_ hSw; (have f1 := F1.out w hSw; have f2 := F2.out w hSw; have f3 := F3.out w hSw); go_simp; try with_reducible rfl)
      simp only [Act.put, List.setIfInBounds_toArray, List.set_cons_zero, List.set_cons_succ]
      replace hCl := hCl'; clear hCl'
      refine T.qTake (i := 5) (d := (some 19)) (v := ?v6) rfl rfl (by kernel_rfl) (by decide) hCl (by kernel_rfl) (by kernel_rfl) (by kernel_rfl) (by rfl) ?hy6 (fun _ _ _ => trivial) (fun hCl' => ?_)
      case hy6 => (intro w hSw; refine T.qVal ?_ hSw; (have f1 := F1.out w hSw; have f2 := F2.out w hSw; have f3 := F3.out w hSw); go_simp; try with_reducible rfl)
      simp only [Act.put, List.setIfInBounds_toArray, List.set_cons_zero, List.set_cons_succ]
      replace hCl := hCl'; clear hCl'
      refine T.qTake (i := 6) (d := (some 20)) (v := ?v7) rfl rfl (by kernel_rfl) (by decide) hCl (by kernel_rfl) (by kernel_rfl) (by kernel_rfl) (by rfl) ?hy7 (fun _ _ _ => trivial) (fun hCl' => ?_)
      case hy7 => (intro w hSw; refine T.qVal ?_ hSw; (have f1 := F1.out w hSw; have f2 := F2.out w hSw; have f3 := F3.out w hSw); go_simp; try with_reducible rfl)
      simp only [Act.put, List.setIfInBounds_toArray, List.set_cons_zero, List.set_cons_succ]
      replace hCl := hCl'; clear hCl'
      refine T.qTake (i := 7) (d := (some 21)) (v := (.pointer (some ⟨q1, p2, none⟩))) rfl rfl (by kernel_rfl) (by decide) hCl (by kernel_rfl) (by kernel_rfl) (by kernel_rfl) (by rfl) ?hy8 (fun _ _ _ => trivial) (fun hCl' => ?_)
      case hy8 => (intro w hSw; (have f1 := F1.out w hSw; have f2 := F2.out w hSw; have f3 := F3.out w hSw); go_simp; (refine (callsIn_wide.2 (P2.out w)).mono ?_; rintro e w3 ⟨rfl, u3⟩; exact ⟨rfl, hSw.trans u3⟩))
      simp only [Act.put, List.setIfInBounds_toArray, List.set_cons_zero, List.set_cons_succ]
      replace hCl := hCl'; clear hCl'
      refine T.qTake (i := 8) (d := (some 22)) (v := ?v9) rfl rfl (by kernel_rfl) (by decide) hCl (by kernel_rfl) (by kernel_rfl) (by kernel_rfl) (by rfl) ?hy9 (fun _ _ _ => trivial) (fun hCl' => ?_)
      case hy9 => (intro w hSw; refine T.qVal ?_ hSw; (have f1 := F1.out w hSw; have f2 := F2.out w hSw; have f3 := F3.out w hSw); go_simp; try with_reducible rfl)
      simp only [Act.put, List.setIfInBounds_toArray, List.set_cons_zero, List.set_cons_succ]
      replace hCl := hCl'; clear hCl'
      refine T.qTake (i := 9) (d := (some 23)) (v := ?v10) rfl rfl (by kernel_rfl) (by decide) hCl (by kernel_rfl) (by kernel_rfl) (by kernel_rfl) (by rfl) ?hy10 (fun _ _ _ => trivial) (fun hCl' => ?_)
      case hy10 => (intro w hSw; refine T.qVal ?_ hSw; (have f1 := F1.out w hSw; have f2 := F2.out w hSw; have f3 := F3.out w hSw); go_simp; try with_reducible rfl)
      simp only [Act.put, List.setIfInBounds_toArray, List.set_cons_zero, List.set_cons_succ]
      replace hCl := hCl'; clear hCl'
      refine T.qTake (i := 10) (d := (some 24)) (v := ?v11) rfl rfl (by kernel_rfl) (by decide) hCl (by kernel_rfl) (by kernel_rfl) (by kernel_rfl) (by rfl) ?hy11 (fun _ _ _ => trivial) (fun hCl' => ?_)
      case hy11 => (intro w hSw; refine T.qVal ?_ hSw; (have f1 := F1.out w hSw; have f2 := F2.out w hSw; have f3 := F3.out w hSw); go_simp; try with_reducible rfl)
      simp only [Act.put, List.setIfInBounds_toArray, List.set_cons_zero, List.set_cons_succ]
      replace hCl := hCl'; clear hCl'
      refine T.qTake (i := 11) (d := (some 25)) (v := ?v12) rfl rfl (by kernel_rfl) (by decide) hCl (by kernel_rfl) (by kernel_rfl) (by kernel_rfl) (by rfl) ?hy12 (fun _ _ _ => trivial) (fun hCl' => ?_)
      case hy12 => (intro w hSw; refine T.qVal ?_ hSw; (have f1 := F1.out w hSw; have f2 := F2.out w hSw; have f3 := F3.out w hSw); go_simp; try with_reducible rfl)
      simp only [Act.put, List.setIfInBounds_toArray, List.set_cons_zero, List.set_cons_succ]
      replace hCl := hCl'; clear hCl'
      refine T.qTake (i := 12) (d := (some 26)) (v := ?v13) rfl rfl (by kernel_rfl) (by decide) hCl (by kernel_rfl) (by kernel_rfl) (by kernel_rfl) (by rfl) ?hy13 (fun _ _ _ => trivial) (fun hCl' => ?_)
      case hy13 => (intro w hSw; refine T.qVal ?_ hSw; (have f1 := F1.out w hSw; have f2 := F2.out w hSw; have f3 := F3.out w hSw); go_simp; try with_reducible rfl)
      simp only [Act.put, List.setIfInBounds_toArray, List.set_cons_zero, List.set_cons_succ]
      replace hCl := hCl'; clear hCl'
      refine T.qTake (i := 13) (d := (some 27)) (v := ?v14) rfl rfl (by kernel_rfl) (by decide) hCl (by kernel_rfl) (by kernel_rfl) (by kernel_rfl) (by rfl) ?hy14 (fun _ _ _ => trivial) (fun hCl' => ?_)
      case hy14 => (intro w hSw; refine T.qVal ?_ hSw; (have f1 := F1.out w hSw; have f2 := F2.out w hSw; have f3 := F3.out w hSw); go_simp; try with_reducible rfl)
      simp only [Act.put, List.setIfInBounds_toArray, List.set_cons_zero, List.set_cons_succ]
      replace hCl := hCl'; clear hCl'
      refine T.qTake (i := 14) (d := (some 28)) (v := ?v15) rfl rfl (by kernel_rfl) (by decide) hCl (by kernel_rfl) (by kernel_rfl) (by kernel_rfl) (by rfl) ?hy15 (fun _ _ _ => trivial) (fun hCl' => ?_)
      case hy15 => (intro w hSw; refine T.qVal ?_ hSw; (have f1 := F1.out w hSw; have f2 := F2.out w hSw; have f3 := F3.out w hSw); go_simp; try with_reducible rfl)
      simp only [Act.put, List.setIfInBounds_toArray, List.set_cons_zero, List.set_cons_succ]
      replace hCl := hCl'; clear hCl'
      refine T.qTake (i := 15) (d := (some 29)) (v := ?v16) rfl rfl (by kernel_rfl) (by decide) hCl (by kernel_rfl) (by kernel_rfl) (by kernel_rfl) (by rfl) ?hy16 (fun _ _ _ => trivial) (fun hCl' => ?_)
      case hy16 => (intro w hSw; refine T.qVal ?_ hSw; (have f1 := F1.out w hSw; have f2 := F2.out w hSw; have f3 := F3.out w hSw); go_simp; try with_reducible rfl)
      simp only [Act.put, List.setIfInBounds_toArray, List.set_cons_zero, List.set_cons_succ]
      replace hCl := hCl'; clear hCl'
      refine T.qTake (i := 16) (d := (some 30)) (v := ?v17) rfl rfl (by kernel_rfl) (by decide) hCl (by kernel_rfl) (by kernel_rfl) (by kernel_rfl) (by rfl) ?hy17 (fun _ _ _ => trivial) (fun hCl' => ?_)
      case hy17 => (intro w hSw; refine T.qVal ?_ hSw; (have f1 := F1.out w hSw; have f2 := F2.out w hSw; have f3 := F3.out w hSw); go_simp; try with_reducible rfl)
      simp only [Act.put, List.setIfInBounds_toArray, List.set_cons_zero, List.set_cons_succ]
      replace hCl := hCl'; clear hCl'
      refine T.qTake (i := 17) (d := (some 31)) (v := (.bool (inB (IntKind.i64.wrap (n1 - n2)) l u))) rfl rfl (by kernel_rfl) (by decide) hCl (by kernel_rfl) (by kernel_rfl) (by kernel_rfl) (by rfl) ?hy18 (fun _ _ _ => trivial) (fun hCl' => ?_)
      case hy18 => (intro w hSw; (have f1 := F1.out w hSw; have f2 := F2.out w hSw; have f3 := F3.out w hSw); go_simp; (refine (callsIn_wide.2 (within_any _ l u w)).mono ?_; rintro e w3 ⟨rfl, rfl⟩; exact ⟨rfl, hSw⟩))
      simp only [Act.put, List.setIfInBounds_toArray, List.set_cons_zero, List.set_cons_succ]
      replace hCl := hCl'; clear hCl'
      refine T.tail_intro (by kernel_rfl) (fun Y hY => ?_)
      have kO2 := hY.blk kO
      replace V := V.trans hY
      cases hin : inB (IntKind.i64.wrap (n1 - n2)) l u with
      | false =>
        rw [hin, Bool.false_and] at hdr
        refine lastG (i := 18) (by kernel_rfl) rfl (by rfl) (by decide) (fun K hK => ?_)
        go_simp
        refine hK.out _ _ ?_
        clear hK K
        refine doneG (by kernel_rfl) ?_ _
        refine S.nrm_intro ?_
        clear kO kt F1 F2 F3 P1 P2
        gi_wp2
        go_ret
        exact ⟨ret_bool (by rw [hall.out, hdr.out]), V⟩
      | true =>
        rw [hin, Bool.true_and] at hdr
        refine lastG (i := 18) (by kernel_rfl) rfl (by rfl) (by decide) (fun K hK => ?_)
        go_simp
        refine hK.out _ _ ?_
        clear hK K
        refine doneG (by kernel_rfl) ?_ _
        refine S.nrm_intro ?_
        clear kO kt F1 F2 F3 P1 P2
        gi_wp2
        go_roundw
        case rel => exact ⟨k + 1, by omega, by go_num, Lib.hid (hall.out.trans hdr.out), V, kO2⟩
        case measure => simp [intOf]; omega
    · obtain rfl : k = ts.length := by omega
      gi_wp2
      go_ret
      exact ⟨ret_bool (by rw [hall.out, List.drop_length]; rfl), V⟩
end

end Go.Proofs.Ytcmdaiklkdeanaa
