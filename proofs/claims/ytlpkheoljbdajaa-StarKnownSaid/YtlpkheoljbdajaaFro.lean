import Derived.Test.YtlpkheoljbdajaaFar
/- The spans of all things, in memory; the contract of from. -/
namespace Go.Proofs.Ytlpkheoljbdajaa
open Go.RowKit Go.Shelf
attribute [local go_sem] Oper.semAt_some

/-- the cells of spans -/
structure T.SC (cs : Array Value) (lo hi : Int → Int) : Prop where
  size : cs.size = 34
  lo_ : ∀ i : Nat, i < 17 → cs[2 * i]? = some (.int .i64 (lo i))
  hi_ : ∀ i : Nat, i < 17 → cs[2 * i + 1]? = some (.int .i64 (hi i))
def Ok34 (cs : Array Value) : Prop := cs.size = 34 ∧ cs.all (·.oneCell') = true
theorem T.SC.one {cs : Array Value} {lo hi : Int → Int} (h : T.SC cs lo hi) : Ok34 cs := by
  refine ⟨h.size, ?_⟩
  rw [Array.all_eq_true]
  intro i hi'
  have hs := h.size
  have e : cs[i]? = some cs[i] := Array.getElem?_eq_getElem hi'
  rcases Nat.mod_two_eq_zero_or_one i with q | q
  · have r := h.lo_ (i / 2) (by omega)
    rw [show 2 * (i / 2) = i by omega, e] at r
    rw [Option.some.inj r]; rfl
  · have r := h.hi_ (i / 2) (by omega)
    rw [show 2 * (i / 2) + 1 = i by omega, e] at r
    rw [Option.some.inj r]; rfl
theorem T.SC.congr {cs : Array Value} {lo hi lo' hi' : Int → Int} (h : T.SC cs lo hi) (e1 : ∀ i : Int, 0 ≤ i → i ≤ 16 → lo i = lo' i) (e2 : ∀ i : Int, 0 ≤ i → i ≤ 16 → hi i = hi' i) : T.SC cs lo' hi' :=
  ⟨h.size, fun i hi => by rw [h.lo_ i hi, e1 i (by omega) (by omega)], fun i hi => by rw [h.hi_ i hi, e2 i (by omega) (by omega)]⟩
theorem T.SC.put {cs : Array Value} {lo hi : Int → Int} (h : T.SC cs lo hi) (k : Nat) (hk : k < 17) (l u : Int) : T.SC ((cs.setIfInBounds (2 * k) (.int .i64 l)).setIfInBounds (2 * k + 1) (.int .i64 u)) (T.put lo k l) (T.put hi k u) := by
  have hs := h.size
  refine ⟨by rw [Array.size_setIfInBounds, Array.size_setIfInBounds, hs], fun i hi => ?_, fun i hi => ?_⟩
  · rw [Array.getElem?_setIfInBounds_ne (by omega)]
    unfold T.put
    by_cases e : i = k
    · subst e
      rw [Array.getElem?_setIfInBounds_self_of_lt (by rw [hs]; omega), if_pos rfl]
    · rw [Array.getElem?_setIfInBounds_ne (by omega), if_neg (by omega)]
      exact h.lo_ i hi
  · unfold T.put
    by_cases e : i = k
    · subst e
      rw [Array.getElem?_setIfInBounds_self_of_lt (by rw [Array.size_setIfInBounds, hs]; omega), if_pos rfl]
    · rw [Array.getElem?_setIfInBounds_ne (by omega), Array.getElem?_setIfInBounds_ne (by omega), if_neg (by omega)]
      exact h.hi_ i hi
theorem infoSps : (Try.prog.info? 147).map (·.size) = some 34 := by kernel_rfl
def spsLoad (v : Value) : Sem Value := Instr.loadAt 147 v
theorem spsLoad_eq (v : Value) : Instr.loadAt 147 v = spsLoad v := rfl
theorem run_spsLoad (w : World) (b : Nat) (cs : Array Value) (hg : mblk w b = some (.cells cs 147 (0, 0))) (hs : Hid (cs.size = 34)) : (spsLoad (.pointer (some ⟨b, 0, none⟩))).run Try.prog w = .ok (.agg cs) w := by
  have q := run_loadVar_row w b 147 147 cs (0, 0) _ hg Try.underlying147 rfl (by rw [infoSps, hs.out])
  simp only [spsLoad, Instr.loadAt, Instr.sureAddr, Sem.run_bind, Sem.run_pure, Result.andThen_ok, q]
def spsStore (p v : Value) : Sem Unit := Instr.storeAt 147 p v
theorem spsStore_eq (p v : Value) : Instr.storeAt 147 p v = spsStore p v := rfl
theorem run_spsStore (w : World) (c cs : Array Value) (n : Nat) (hn : n = w.heap.size) (hc : Hid (c.size = 34)) (hs : Ok34 cs) :
    (spsStore (.pointer (some ⟨n, 0, none⟩)) (.agg cs)).run Try.prog (w.alloc (.cells c 147)) = .ok () (w.alloc (.cells cs 147)) := by
  subst hn
  have q := run_storeVar_new (P := Try.prog) w 147 c cs (by rw [infoSps, hs.1]) (by rw [hc.out, hs.1]) hs.2
  simp only [spsStore, Instr.storeAt, Instr.sureAddr, Sem.run_bind, Sem.run_pure, Result.andThen_ok, q]
theorem run_spsStore_row (w : World) (b : Nat) (old cs : Array Value) (hg : mblk w b = some (.cells old 147 (0, 0))) (ho : Hid (old.size = 34)) (hs : Ok34 cs) :
    (spsStore (.pointer (some ⟨b, 0, none⟩)) (.agg cs)).run Try.prog w = .ok () (w.setRow b cs) := by
  have q := run_storeVar_row (P := Try.prog) w b 147 147 old cs hg (by rw [infoSps, hs.1]) (by rw [ho.out, hs.1]) hs.2
  simp only [spsStore, Instr.storeAt, Instr.sureAddr, Sem.run_bind, Sem.run_pure, Result.andThen_ok, q]
/-- the cells of no spans -/
def SZ : Array Value := Array.replicate 34 (.int .i64 0)
theorem SZ_size : SZ.size = 34 := by unfold SZ; exact Array.size_replicate
theorem SZ_sc : T.SC SZ (fun _ => 0) (fun _ => 0) := ⟨SZ_size, fun i hi => by unfold SZ; rw [Array.getElem?_replicate, if_pos (by omega)], fun i hi => by unfold SZ; rw [Array.getElem?_replicate, if_pos (by omega)]⟩
def spsAlloc : Sem Value := Instr.alloc 147 true (.tuple #[])
theorem spsAlloc_eq : Instr.alloc 147 true (.tuple #[]) = spsAlloc := rfl
theorem run_spsAlloc (w : World) : spsAlloc.run Try.prog w = .ok (.pointer (some ⟨w.heap.size, 0, none⟩)) (w.alloc (.cells SZ 147)) := by kernel_rfl
def spsBuild : Sem Value := Instr.build 147 #[]
theorem spsBuild_eq : Instr.build 147 #[] = spsBuild := rfl
theorem run_spsBuild (w : World) : spsBuild.run Try.prog w = .ok (.agg SZ) w := by kernel_rfl
attribute [go_sem ↓] spsLoad_eq spsStore_eq spsAlloc_eq spsBuild_eq
attribute [go_sem] run_spsLoad run_spsStore run_spsAlloc run_spsBuild
theorem results_sps {fn : Func} {p u : Tmp} (h : fn.results = #[.cell p 147, .tmp u]) (tmps : Array Value) (w : World) (g : Nat) (cs : Array Value) (hp : tmps.getD p undef = .pointer (some ⟨g, 0, none⟩)) (hg : mblk w g = some (.cells cs 147 (0, 0))) (hs : cs.size = 34) :
    (results fn tmps).run Try.prog w = .ok (.tuple #[.agg cs, tmps.getD u undef]) w := by
  rw [results_cell_tmp h, hp]
  simp only [asAddr, Sem.run_pure, Result.andThen_ok, run_loadVar_row w g 147 147 cs (0, 0) _ hg Try.underlying147 rfl (by rw [infoSps, hs])]
theorem T.mergeC {P : Prop} (R : World → Nat → Array Value → Bool → Prop) {G : World → Nat → Array Value → Bool → Prop} (h1 : Hid (∀ w' b c d, R w' b c d → G w' b c d) → P) (h2 : ∀ w' b c d, R w' b c d → G w' b c d) : P := h1 (Lib.hid h2)
theorem T.FarIs.oc {ah : Bool} {ts : List T.T4} {m : Int} {cs : Array Value} {r : Bool} (hts : T.Tin ts) (hl : ts.length ≤ 300) (h : T.FarIs ah ts m cs r) : ∃ f, T.OC cs f ∧ T.Bn 60000000000 f := by
  rcases h with ⟨_, j, hj, _, hO⟩ | ⟨_, rfl, _⟩
  · exact ⟨_, hO, (T.Bn.rnds hl (fun t ht => (hts t ht).2.2) (j + 1) (by omega)).mono (by omega)⟩
  · exact ⟨_, NZ_oc, fun _ => .inl ⟨by omega, by omega⟩⟩
/-- what from tells -/
def T.FromIs (ts : List T.T4) (m : Int) (cs : Array Value) (r : Bool) : Prop :=
  (r = false ∧ cs = SZ ∧ ∃ c1, T.FarIs true ts m c1 false) ∨ (r = true ∧ ∃ c1 c2 r2 f g, T.FarIs true ts m c1 true ∧ T.FarIs false ts m c2 r2 ∧ T.OC c1 f ∧ T.OC c2 g ∧ T.Bn 60000000000 f ∧ T.Bn 60000000000 g ∧ T.SC cs (fun i => -g i) f)
def T.FromR (ts : List T.T4) (m : Int) (e : Ending) : Prop := ∃ cs r, e = .returned (.tuple #[.agg cs, .bool r]) ∧ T.FromIs ts m cs r
/-- the first k laid -/
def T.cut (f : Int → Int) (k : Nat) : Int → Int := fun i => if i < k then f i else 0
theorem T.cut_put (f : Int → Int) (k : Nat) (i : Int) : T.put (T.cut f k) k (f k) i = T.cut f (k + 1) i := by
  unfold T.put T.cut
  split
  · rename_i e
    rw [if_pos (by omega), e]
  · split
    · rw [if_pos (by omega)]
    · rw [if_neg (by omega)]
section
variable {N bl bh rl rh : Int} {aP aQ aL aT : Option Addr} {nP cP nQ cQ nL cL nT cT : Nat} {o : Nat → Bool}
set_option maxRecDepth 100000 in
set_option maxHeartbeats 4000000 in
theorem from_any {w0 w : World} {ts : List T.T4} {m : Int} (I : Tis w0 (.slice aT nT cT) ts) (hu : Up w0 w) (hts : T.Tin ts) (hl : ts.length ≤ 300) (hm : 0 ≤ m ∧ m ≤ 16) :
    Calls Try.prog 93 #[WeV N bl bh rl rh (.slice aP nP cP) (.slice aQ nQ cQ) (.slice aL nL cL) o (.slice aT nT cT), .int .i64 m] w fun e w' => T.FromR ts m e ∧ Up w w' := by
  have HFA := Lib.hid (fun w' (u : Up w w') => farthest_up (N := N) (bl := bl) (bh := bh) (rl := rl) (rh := rh) (aP := aP) (nP := nP) (cP := cP) (aQ := aQ) (nQ := nQ) (cQ := cQ) (aL := aL) (nL := nL) (cL := cL) (o := o) (cT := cT) I (hu.trans u) hts hl hm)
  have HFB := Lib.hid (fun w' (u : Up w w') => farthest_dn (N := N) (bl := bl) (bh := bh) (rl := rl) (rh := rh) (aP := aP) (nP := nP) (cP := cP) (aQ := aQ) (nQ := nQ) (cQ := cQ) (aL := aL) (nL := nL) (cL := cL) (o := o) (cT := cT) I (hu.trans u) hts hl hm)
  have HOC := Lib.hid (fun ah cs r (h : T.FarIs ah ts m cs r) => h.oc hts hl)
  have HZ := Lib.hid SZ_size
  clear I hu hts hl hm
  go_enter Try.func93, Try.ntmps93
  go_wp2_with fail
  obtain ⟨W0, hW0⟩ : ∃ x, (w.alloc (.cells (WeC N bl bh rl rh (.slice aP nP cP) (.slice aQ nQ cQ) (.slice aL nL cL) o (.slice aT nT cT)) 90)).alloc (.cells SZ 147) = x := ⟨_, rfl⟩
  obtain ⟨q0, e0⟩ : ∃ x, w.heap.size = x := ⟨_, rfl⟩
  obtain ⟨q1, e1⟩ : ∃ x, q0 + 1 = x := ⟨_, rfl⟩
  have U0 : Up w W0 := by rw [← hW0]; exact ((Up.refl w).alloc _).alloc _
  have kW : mblk W0 q0 = some (.cells (WeC N bl bh rl rh (.slice aP nP cP) (.slice aQ nQ cQ) (.slice aL nL cL) o (.slice aT nT cT)) 90 (0, 0)) := by rw [← hW0]; exact blk_keep _ (blk_new _ _ _ e0.symm)
  have kR : mblk W0 q1 = some (.cells SZ 147 (0, 0)) := by rw [← hW0]; exact blk_new _ _ _ (by simp; omega)
  rw [hW0, e0, e1]
  clear hW0
  have UW0 := U0
  have l0 := blk_lt kW
  have l1 := blk_lt kR
  apply T.mergeC (fun w' b cs r => Up w w' ∧ Up W0 w' ∧ mblk w' b = some (.cells cs 85 (0, 0)) ∧ W0.heap.size ≤ b ∧ T.FarIs true ts m cs r)
  · intro HKey
    refine wp_region_held_drew (S := (fun w' => (Up w w' ∧ Up W0 w') ∧ mblk w' q0 = some (.cells (WeC N bl bh rl rh (.slice aP nP cP) (.slice aQ nQ cQ) (.slice aL nL cL) o (.slice aT nT cT)) 90 (0, 0)) ∧ mblk w' q1 = some (.cells SZ 147 (0, 0)))) (by kernel_rfl) ⟨⟨UW0.drew, (Up.refl W0).drew⟩, by rw [blk_drew]; exact kW, by rw [blk_drew]; exact kR⟩ (fun hHeld => ?_)
    refine takeH (i := 0) (d := (some 13)) (v := ?v1) rfl rfl (by kernel_rfl) (by kernel_rfl) (by kernel_rfl) (fun _ _ _ h => h) (by rfl) ?hy1 (by assumption) ?_
    case hy1 => ((intro w hSw; (try dsimp only at hSw); (try go_split_ands); go_simp); try with_reducible rfl)
    simp only [Act.put, List.setIfInBounds_toArray, List.set_cons_zero, List.set_cons_succ]
    refine takeH (i := 1) (d := (some 14)) (v := ?v2) rfl rfl (by kernel_rfl) (by kernel_rfl) (by kernel_rfl) (fun _ _ _ h => h) (by rfl) ?hy2 (by assumption) ?_
    case hy2 => ((intro w hSw; (try dsimp only at hSw); (try go_split_ands); go_simp); try with_reducible rfl)
    simp only [Act.put, List.setIfInBounds_toArray, List.set_cons_zero, List.set_cons_succ]
    refine wpAnyH_ready (rs := [2, 7]) (by kernel_rfl) (by simp) ?_
    refine AllReadyH.cons rfl (fun K hK => ?_) (AllReadyH.cons rfl (fun K hK => ?_) AllReadyH.nil)
    · go_simp
      refine (upwards_any _).mono ?_
      rintro e y1 ⟨rfl, u'⟩
      have u : Up W0 y1 := ((Up.refl W0).drew).trans u'
      go_wp2_with fail
      refine hK.out _ _ ⟨⟨hHeld.1.1.trans u', hHeld.1.2.trans u'⟩, u'.blk hHeld.2.1, u'.blk hHeld.2.2⟩ (fun hHeld => ?_)
      clear hK K u u'
      refine wpAnyH_ready (rs := [3, 7]) (by kernel_rfl) (by simp) ?_
      refine AllReadyH.cons rfl (fun K hK => ?_) (AllReadyH.cons rfl (fun K hK => ?_) AllReadyH.nil)
      · go_simp
        refine (HFA.out _ hHeld.1.1).mono ?_
        rintro e y2 ⟨⟨cs, r, rfl, hF⟩, u⟩
        go_wp2_with fail
        refine hK.out _ _ ⟨⟨hHeld.1.1.trans u, hHeld.1.2.trans u⟩, u.blk hHeld.2.1, u.blk hHeld.2.2⟩ (fun hHeld => ?_)
        clear hK K u
        refine takeH (i := 4) (d := (some 12)) (v := ?v3) rfl rfl (by kernel_rfl) (by kernel_rfl) (by kernel_rfl) (fun _ _ _ h => h) (by rfl) ?hy3 (by assumption) ?_
        case hy3 => ((intro w hSw; (try dsimp only at hSw); (try go_split_ands); go_simp); try with_reducible rfl)
        simp only [Act.put, List.setIfInBounds_toArray, List.set_cons_zero, List.set_cons_succ]
        refine takeH (i := 5) (d := (some 17)) (v := ?v4) rfl rfl (by kernel_rfl) (by kernel_rfl) (by kernel_rfl) (fun _ _ _ h => h) (by rfl) ?hy4 (by assumption) ?_
        case hy4 => ((intro w hSw; (try dsimp only at hSw); (try go_split_ands); go_simp); try with_reducible rfl)
        simp only [Act.put, List.setIfInBounds_toArray, List.set_cons_zero, List.set_cons_succ]
        refine takeH (i := 6) (d := (some 18)) (v := ?v5) rfl rfl (by kernel_rfl) (by kernel_rfl) (by kernel_rfl) (fun _ _ _ h => h) (by rfl) ?hy5 (by assumption) ?_
        case hy5 => ((intro w hSw; (try dsimp only at hSw); (try go_split_ands); go_simp); try with_reducible rfl)
        simp only [Act.put, List.setIfInBounds_toArray, List.set_cons_zero, List.set_cons_succ]
        refine wpAnyH_ready (rs := [7]) (by kernel_rfl) (by simp) ?_
        refine AllReadyH.cons rfl (fun K hK => ?_) AllReadyH.nil
        go_simp
        obtain ⟨y3, hY⟩ : ∃ Y, y2.alloc (.cells NZ 85) = Y := ⟨_, rfl⟩
        obtain ⟨bz, hb⟩ : ∃ b, y2.heap.size = b := ⟨_, rfl⟩
        have kz : mblk y3 bz = some (.cells NZ 85 (0, 0)) := by rw [← hY]; exact blk_new _ _ _ hb.symm
        have hbz : W0.heap.size ≤ bz := by have := hHeld.1.2.size; omega
        have u : Up y2 y3 := by rw [← hY]; exact (Up.refl y2).alloc _
        rw [hb, hY]
        refine hK.out _ _ ⟨⟨hHeld.1.1.trans u, hHeld.1.2.trans u⟩, u.blk hHeld.2.1, u.blk hHeld.2.2⟩ (fun hHeld => ?_)
        clear hK K hY hb u
        obtain ⟨ff, hO, hB⟩ := HOC.out _ _ _ hF
        have hsz := hO.size
        have hone := hO.one
        have hst := run_numStore_row y3 bz NZ cs kz (Lib.hid NZ_size) hone
        refine wpAnyH_ready (rs := [8]) (by kernel_rfl) (by simp) ?_
        refine AllReadyH.cons rfl (fun K hK => ?_) AllReadyH.nil
        go_simp
        obtain ⟨y4, hY⟩ : ∃ Y, y3.setRow bz cs = Y := ⟨_, rfl⟩
        have kz2 : mblk y4 bz = some (.cells cs 85 (0, 0)) := by rw [← hY]; exact blk_setRow kz cs
        have g : y3.grownBy y4 (some bz) := by rw [← hY]; exact grown_row _ _ _
        rw [hY]
        refine hK.out _ _ ⟨⟨hHeld.1.1.grown g (fun k e => by have := Option.some.inj e; have := UW0.size; omega), hHeld.1.2.grown g (fun k e => by have := Option.some.inj e; omega)⟩, grown_blk g hHeld.2.1 (fun e => by have := Option.some.inj e; omega), grown_blk g hHeld.2.2 (fun e => by have := Option.some.inj e; omega)⟩ (fun hHeld => ?_)
        clear hK K hY g hst
        refine takeH (i := 9) (d := (some 7)) (v := ?v8) rfl rfl (by kernel_rfl) (by kernel_rfl) (by kernel_rfl) (fun _ _ _ h => h) (by rfl) ?hy8 (by assumption) ?_
        case hy8 => ((intro w hSw; (try dsimp only at hSw); (try go_split_ands); go_simp); try with_reducible rfl)
        simp only [Act.put, List.setIfInBounds_toArray, List.set_cons_zero, List.set_cons_succ]
        refine wpAnyH_done (by kernel_rfl) ?_ _
        exact HKey.out _ bz cs r ⟨hHeld.1.1, hHeld.1.2, kz2, hbz, hF⟩
      · go_simp
        obtain ⟨y5, hY⟩ : ∃ Y, (y1.alloc (.cells NZ 85)) = Y := ⟨_, rfl⟩
        obtain ⟨bz, hb⟩ : ∃ b, y1.heap.size = b := ⟨_, rfl⟩
        have kz : mblk y5 bz = some (.cells NZ 85 (0, 0)) := by rw [← hY]; exact blk_new _ _ _ hb.symm
        have hbz : W0.heap.size ≤ bz := by have := hHeld.1.2.size; omega
        have u : Up y1 y5 := by rw [← hY]; exact (Up.refl y1).alloc (.cells NZ 85)
        rw [hb, hY]
        refine hK.out _ _ ⟨⟨hHeld.1.1.trans u, hHeld.1.2.trans u⟩, u.blk hHeld.2.1, u.blk hHeld.2.2⟩ (fun hHeld => ?_)
        clear hK K hY hb u
        refine wpAnyH_ready (rs := [3]) (by kernel_rfl) (by simp) ?_
        refine AllReadyH.cons rfl (fun K hK => ?_) AllReadyH.nil
        go_simp
        refine (HFA.out _ hHeld.1.1).mono ?_
        rintro e y6 ⟨⟨cs, r, rfl, hF⟩, u⟩
        replace kz := u.blk kz
        go_wp2_with fail
        refine hK.out _ _ ⟨⟨hHeld.1.1.trans u, hHeld.1.2.trans u⟩, u.blk hHeld.2.1, u.blk hHeld.2.2⟩ (fun hHeld => ?_)
        clear hK K u
        refine takeH (i := 4) (d := (some 12)) (v := ?v10) rfl rfl (by kernel_rfl) (by kernel_rfl) (by kernel_rfl) (fun _ _ _ h => h) (by rfl) ?hy10 (by assumption) ?_
        case hy10 => ((intro w hSw; (try dsimp only at hSw); (try go_split_ands); go_simp); try with_reducible rfl)
        simp only [Act.put, List.setIfInBounds_toArray, List.set_cons_zero, List.set_cons_succ]
        refine takeH (i := 5) (d := (some 17)) (v := ?v11) rfl rfl (by kernel_rfl) (by kernel_rfl) (by kernel_rfl) (fun _ _ _ h => h) (by rfl) ?hy11 (by assumption) ?_
        case hy11 => ((intro w hSw; (try dsimp only at hSw); (try go_split_ands); go_simp); try with_reducible rfl)
        simp only [Act.put, List.setIfInBounds_toArray, List.set_cons_zero, List.set_cons_succ]
        refine takeH (i := 6) (d := (some 18)) (v := ?v12) rfl rfl (by kernel_rfl) (by kernel_rfl) (by kernel_rfl) (fun _ _ _ h => h) (by rfl) ?hy12 (by assumption) ?_
        case hy12 => ((intro w hSw; (try dsimp only at hSw); (try go_split_ands); go_simp); try with_reducible rfl)
        simp only [Act.put, List.setIfInBounds_toArray, List.set_cons_zero, List.set_cons_succ]
        obtain ⟨ff, hO, hB⟩ := HOC.out _ _ _ hF
        have hsz := hO.size
        have hone := hO.one
        have hst := run_numStore_row y6 bz NZ cs kz (Lib.hid NZ_size) hone
        refine wpAnyH_ready (rs := [8]) (by kernel_rfl) (by simp) ?_
        refine AllReadyH.cons rfl (fun K hK => ?_) AllReadyH.nil
        go_simp
        obtain ⟨y7, hY⟩ : ∃ Y, y6.setRow bz cs = Y := ⟨_, rfl⟩
        have kz2 : mblk y7 bz = some (.cells cs 85 (0, 0)) := by rw [← hY]; exact blk_setRow kz cs
        have g : y6.grownBy y7 (some bz) := by rw [← hY]; exact grown_row _ _ _
        rw [hY]
        refine hK.out _ _ ⟨⟨hHeld.1.1.grown g (fun k e => by have := Option.some.inj e; have := UW0.size; omega), hHeld.1.2.grown g (fun k e => by have := Option.some.inj e; omega)⟩, grown_blk g hHeld.2.1 (fun e => by have := Option.some.inj e; omega), grown_blk g hHeld.2.2 (fun e => by have := Option.some.inj e; omega)⟩ (fun hHeld => ?_)
        clear hK K hY g hst
        refine takeH (i := 9) (d := (some 7)) (v := ?v14) rfl rfl (by kernel_rfl) (by kernel_rfl) (by kernel_rfl) (fun _ _ _ h => h) (by rfl) ?hy14 (by assumption) ?_
        case hy14 => ((intro w hSw; (try dsimp only at hSw); (try go_split_ands); go_simp); try with_reducible rfl)
        simp only [Act.put, List.setIfInBounds_toArray, List.set_cons_zero, List.set_cons_succ]
        refine wpAnyH_done (by kernel_rfl) ?_ _
        exact HKey.out _ bz cs r ⟨hHeld.1.1, hHeld.1.2, kz2, hbz, hF⟩
    · go_simp
      obtain ⟨y8, hY⟩ : ∃ Y, (W0.alloc (.cells NZ 85)).drew = Y := ⟨_, rfl⟩
      obtain ⟨bz, hb⟩ : ∃ b, W0.heap.size = b := ⟨_, rfl⟩
      have kz : mblk y8 bz = some (.cells NZ 85 (0, 0)) := by rw [← hY, blk_drew]; exact blk_new _ _ _ hb.symm
      have hbz : W0.heap.size ≤ bz := by have := hHeld.1.2.size; rw [← hb]; exact Nat.le_refl _
      have u : Up W0.drew y8 := by rw [← hY]; exact (Up.refl W0.drew).alloc (.cells NZ 85)
      rw [hb, hY]
      refine hK.out _ _ ⟨⟨hHeld.1.1.trans u, hHeld.1.2.trans u⟩, u.blk hHeld.2.1, u.blk hHeld.2.2⟩ (fun hHeld => ?_)
      clear hK K hY hb u
      refine wpAnyH_ready (rs := [2]) (by kernel_rfl) (by simp) ?_
      refine AllReadyH.cons rfl (fun K hK => ?_) AllReadyH.nil
      go_simp
      refine (upwards_any _).mono ?_
      rintro e y9 ⟨rfl, u⟩
      replace kz := u.blk kz
      go_wp2_with fail
      refine hK.out _ _ ⟨⟨hHeld.1.1.trans u, hHeld.1.2.trans u⟩, u.blk hHeld.2.1, u.blk hHeld.2.2⟩ (fun hHeld => ?_)
      clear hK K u
      refine wpAnyH_ready (rs := [3]) (by kernel_rfl) (by simp) ?_
      refine AllReadyH.cons rfl (fun K hK => ?_) AllReadyH.nil
      go_simp
      refine (HFA.out _ hHeld.1.1).mono ?_
      rintro e y10 ⟨⟨cs, r, rfl, hF⟩, u⟩
      replace kz := u.blk kz
      go_wp2_with fail
      refine hK.out _ _ ⟨⟨hHeld.1.1.trans u, hHeld.1.2.trans u⟩, u.blk hHeld.2.1, u.blk hHeld.2.2⟩ (fun hHeld => ?_)
      clear hK K u
      refine takeH (i := 4) (d := (some 12)) (v := ?v17) rfl rfl (by kernel_rfl) (by kernel_rfl) (by kernel_rfl) (fun _ _ _ h => h) (by rfl) ?hy17 (by assumption) ?_
      case hy17 => ((intro w hSw; (try dsimp only at hSw); (try go_split_ands); go_simp); try with_reducible rfl)
      simp only [Act.put, List.setIfInBounds_toArray, List.set_cons_zero, List.set_cons_succ]
      refine takeH (i := 5) (d := (some 17)) (v := ?v18) rfl rfl (by kernel_rfl) (by kernel_rfl) (by kernel_rfl) (fun _ _ _ h => h) (by rfl) ?hy18 (by assumption) ?_
      case hy18 => ((intro w hSw; (try dsimp only at hSw); (try go_split_ands); go_simp); try with_reducible rfl)
      simp only [Act.put, List.setIfInBounds_toArray, List.set_cons_zero, List.set_cons_succ]
      refine takeH (i := 6) (d := (some 18)) (v := ?v19) rfl rfl (by kernel_rfl) (by kernel_rfl) (by kernel_rfl) (fun _ _ _ h => h) (by rfl) ?hy19 (by assumption) ?_
      case hy19 => ((intro w hSw; (try dsimp only at hSw); (try go_split_ands); go_simp); try with_reducible rfl)
      simp only [Act.put, List.setIfInBounds_toArray, List.set_cons_zero, List.set_cons_succ]
      obtain ⟨ff, hO, hB⟩ := HOC.out _ _ _ hF
      have hsz := hO.size
      have hone := hO.one
      have hst := run_numStore_row y10 bz NZ cs kz (Lib.hid NZ_size) hone
      refine wpAnyH_ready (rs := [8]) (by kernel_rfl) (by simp) ?_
      refine AllReadyH.cons rfl (fun K hK => ?_) AllReadyH.nil
      go_simp
      obtain ⟨y11, hY⟩ : ∃ Y, y10.setRow bz cs = Y := ⟨_, rfl⟩
      have kz2 : mblk y11 bz = some (.cells cs 85 (0, 0)) := by rw [← hY]; exact blk_setRow kz cs
      have g : y10.grownBy y11 (some bz) := by rw [← hY]; exact grown_row _ _ _
      rw [hY]
      refine hK.out _ _ ⟨⟨hHeld.1.1.grown g (fun k e => by have := Option.some.inj e; have := UW0.size; omega), hHeld.1.2.grown g (fun k e => by have := Option.some.inj e; omega)⟩, grown_blk g hHeld.2.1 (fun e => by have := Option.some.inj e; omega), grown_blk g hHeld.2.2 (fun e => by have := Option.some.inj e; omega)⟩ (fun hHeld => ?_)
      clear hK K hY g hst
      refine takeH (i := 9) (d := (some 7)) (v := ?v21) rfl rfl (by kernel_rfl) (by kernel_rfl) (by kernel_rfl) (fun _ _ _ h => h) (by rfl) ?hy21 (by assumption) ?_
      case hy21 => ((intro w hSw; (try dsimp only at hSw); (try go_split_ands); go_simp); try with_reducible rfl)
      simp only [Act.put, List.setIfInBounds_toArray, List.set_cons_zero, List.set_cons_succ]
      refine wpAnyH_done (by kernel_rfl) ?_ _
      exact HKey.out _ bz cs r ⟨hHeld.1.1, hHeld.1.2, kz2, hbz, hF⟩
  intro W1 ba ca r ⟨UW1, uA, kS, hba, hF⟩
  replace kW := uA.blk kW
  replace kR := uA.blk kR
  have l2 := blk_lt kS
  obtain ⟨f, hO, hB⟩ := HOC.out _ _ _ hF
  have hsa := hO.size
  clear uA UW0 U0 l0
  cases r with
  | false =>
    have hst : (spsStore (.pointer (some ⟨q1, 0, none⟩)) (.agg #[.int .i64 0, .int .i64 0, .int .i64 0, .int .i64 0, .int .i64 0, .int .i64 0, .int .i64 0, .int .i64 0, .int .i64 0, .int .i64 0, .int .i64 0, .int .i64 0, .int .i64 0, .int .i64 0, .int .i64 0, .int .i64 0, .int .i64 0, .int .i64 0, .int .i64 0, .int .i64 0, .int .i64 0, .int .i64 0, .int .i64 0, .int .i64 0, .int .i64 0, .int .i64 0, .int .i64 0, .int .i64 0, .int .i64 0, .int .i64 0, .int .i64 0, .int .i64 0, .int .i64 0, .int .i64 0])).run Try.prog W1 = .ok () (W1.setRow q1 SZ) := run_spsStore_row W1 q1 SZ SZ kR HZ SZ_sc.one
    have kF := Lib.hid (blk_setRow kR SZ)
    have UF := Lib.hid (UW1.grown (grown_row W1 q1 SZ) (fun k e => by have := Option.some.inj e; omega))
    have HF := Lib.hid hF
    clear HFA HFB kW kS hO hB hF kR UW1
    go_wp2_with fail
    exact bodyPost_ret (results_sps rfl _ _ _ _ rfl kF.out HZ.out) rfl ⟨⟨SZ, false, rfl, .inl ⟨rfl, rfl, _, HF.out⟩⟩, UF.out⟩
  | true =>
    have HF := Lib.hid (And.intro hF (And.intro hO hB))
    clear HFA hF hO hB
    go_wp2_with fail
    have l0 := blk_lt kW
    have l1 := blk_lt kR
    apply T.mergeC (fun w' b cs r => Up w w' ∧ Up W1 w' ∧ mblk w' b = some (.cells cs 85 (0, 0)) ∧ W1.heap.size ≤ b ∧ T.FarIs false ts m cs r)
    · intro HKey
      refine wp_region_held_drew (S := (fun w' => (Up w w' ∧ Up W1 w') ∧ mblk w' q0 = some (.cells (WeC N bl bh rl rh (.slice aP nP cP) (.slice aQ nQ cQ) (.slice aL nL cL) o (.slice aT nT cT)) 90 (0, 0)) ∧ mblk w' q1 = some (.cells SZ 147 (0, 0)))) (by kernel_rfl) ⟨⟨UW1.drew, (Up.refl W1).drew⟩, by rw [blk_drew]; exact kW, by rw [blk_drew]; exact kR⟩ (fun hHeld => ?_)
      refine takeH (i := 0) (d := (some 23)) (v := ?v22) rfl rfl (by kernel_rfl) (by kernel_rfl) (by kernel_rfl) (fun _ _ _ h => h) (by rfl) ?hy22 (by assumption) ?_
      case hy22 => ((intro w hSw; (try dsimp only at hSw); (try go_split_ands); go_simp); try with_reducible rfl)
      simp only [Act.put, List.setIfInBounds_toArray, List.set_cons_zero, List.set_cons_succ]
      refine takeH (i := 1) (d := (some 24)) (v := ?v23) rfl rfl (by kernel_rfl) (by kernel_rfl) (by kernel_rfl) (fun _ _ _ h => h) (by rfl) ?hy23 (by assumption) ?_
      case hy23 => ((intro w hSw; (try dsimp only at hSw); (try go_split_ands); go_simp); try with_reducible rfl)
      simp only [Act.put, List.setIfInBounds_toArray, List.set_cons_zero, List.set_cons_succ]
      refine wpAnyH_ready (rs := [2, 7]) (by kernel_rfl) (by simp) ?_
      refine AllReadyH.cons rfl (fun K hK => ?_) (AllReadyH.cons rfl (fun K hK => ?_) AllReadyH.nil)
      · go_simp
        refine (downwards_any _).mono ?_
        rintro e y12 ⟨rfl, u'⟩
        have u : Up W1 y12 := ((Up.refl W1).drew).trans u'
        go_wp2_with fail
        refine hK.out _ _ ⟨⟨hHeld.1.1.trans u', hHeld.1.2.trans u'⟩, u'.blk hHeld.2.1, u'.blk hHeld.2.2⟩ (fun hHeld => ?_)
        clear hK K u u'
        refine wpAnyH_ready (rs := [3, 7]) (by kernel_rfl) (by simp) ?_
        refine AllReadyH.cons rfl (fun K hK => ?_) (AllReadyH.cons rfl (fun K hK => ?_) AllReadyH.nil)
        · go_simp
          refine (HFB.out _ hHeld.1.1).mono ?_
          rintro e y13 ⟨⟨cs, r, rfl, hF⟩, u⟩
          go_wp2_with fail
          refine hK.out _ _ ⟨⟨hHeld.1.1.trans u, hHeld.1.2.trans u⟩, u.blk hHeld.2.1, u.blk hHeld.2.2⟩ (fun hHeld => ?_)
          clear hK K u
          refine takeH (i := 4) (d := (some 22)) (v := ?v24) rfl rfl (by kernel_rfl) (by kernel_rfl) (by kernel_rfl) (fun _ _ _ h => h) (by rfl) ?hy24 (by assumption) ?_
          case hy24 => ((intro w hSw; (try dsimp only at hSw); (try go_split_ands); go_simp); try with_reducible rfl)
          simp only [Act.put, List.setIfInBounds_toArray, List.set_cons_zero, List.set_cons_succ]
          refine takeH (i := 5) (d := (some 27)) (v := ?v25) rfl rfl (by kernel_rfl) (by kernel_rfl) (by kernel_rfl) (fun _ _ _ h => h) (by rfl) ?hy25 (by assumption) ?_
          case hy25 => ((intro w hSw; (try dsimp only at hSw); (try go_split_ands); go_simp); try with_reducible rfl)
          simp only [Act.put, List.setIfInBounds_toArray, List.set_cons_zero, List.set_cons_succ]
          refine takeH (i := 6) (d := (some 28)) (v := ?v26) rfl rfl (by kernel_rfl) (by kernel_rfl) (by kernel_rfl) (fun _ _ _ h => h) (by rfl) ?hy26 (by assumption) ?_
          case hy26 => ((intro w hSw; (try dsimp only at hSw); (try go_split_ands); go_simp); try with_reducible rfl)
          simp only [Act.put, List.setIfInBounds_toArray, List.set_cons_zero, List.set_cons_succ]
          refine wpAnyH_ready (rs := [7]) (by kernel_rfl) (by simp) ?_
          refine AllReadyH.cons rfl (fun K hK => ?_) AllReadyH.nil
          go_simp
          obtain ⟨y14, hY⟩ : ∃ Y, y13.alloc (.cells NZ 85) = Y := ⟨_, rfl⟩
          obtain ⟨bz, hb⟩ : ∃ b, y13.heap.size = b := ⟨_, rfl⟩
          have kz : mblk y14 bz = some (.cells NZ 85 (0, 0)) := by rw [← hY]; exact blk_new _ _ _ hb.symm
          have hbz : W1.heap.size ≤ bz := by have := hHeld.1.2.size; omega
          have u : Up y13 y14 := by rw [← hY]; exact (Up.refl y13).alloc _
          rw [hb, hY]
          refine hK.out _ _ ⟨⟨hHeld.1.1.trans u, hHeld.1.2.trans u⟩, u.blk hHeld.2.1, u.blk hHeld.2.2⟩ (fun hHeld => ?_)
          clear hK K hY hb u
          obtain ⟨ff, hO, hB⟩ := HOC.out _ _ _ hF
          have hsz := hO.size
          have hone := hO.one
          have hst := run_numStore_row y14 bz NZ cs kz (Lib.hid NZ_size) hone
          refine wpAnyH_ready (rs := [8]) (by kernel_rfl) (by simp) ?_
          refine AllReadyH.cons rfl (fun K hK => ?_) AllReadyH.nil
          go_simp
          obtain ⟨y15, hY⟩ : ∃ Y, y14.setRow bz cs = Y := ⟨_, rfl⟩
          have kz2 : mblk y15 bz = some (.cells cs 85 (0, 0)) := by rw [← hY]; exact blk_setRow kz cs
          have g : y14.grownBy y15 (some bz) := by rw [← hY]; exact grown_row _ _ _
          rw [hY]
          refine hK.out _ _ ⟨⟨hHeld.1.1.grown g (fun k e => by have := Option.some.inj e; have := UW1.size; omega), hHeld.1.2.grown g (fun k e => by have := Option.some.inj e; omega)⟩, grown_blk g hHeld.2.1 (fun e => by have := Option.some.inj e; omega), grown_blk g hHeld.2.2 (fun e => by have := Option.some.inj e; omega)⟩ (fun hHeld => ?_)
          clear hK K hY g hst
          refine takeH (i := 9) (d := (some 9)) (v := ?v29) rfl rfl (by kernel_rfl) (by kernel_rfl) (by kernel_rfl) (fun _ _ _ h => h) (by rfl) ?hy29 (by assumption) ?_
          case hy29 => ((intro w hSw; (try dsimp only at hSw); (try go_split_ands); go_simp); try with_reducible rfl)
          simp only [Act.put, List.setIfInBounds_toArray, List.set_cons_zero, List.set_cons_succ]
          refine wpAnyH_done (by kernel_rfl) ?_ _
          exact HKey.out _ bz cs r ⟨hHeld.1.1, hHeld.1.2, kz2, hbz, hF⟩
        · go_simp
          obtain ⟨y16, hY⟩ : ∃ Y, (y12.alloc (.cells NZ 85)) = Y := ⟨_, rfl⟩
          obtain ⟨bz, hb⟩ : ∃ b, y12.heap.size = b := ⟨_, rfl⟩
          have kz : mblk y16 bz = some (.cells NZ 85 (0, 0)) := by rw [← hY]; exact blk_new _ _ _ hb.symm
          have hbz : W1.heap.size ≤ bz := by have := hHeld.1.2.size; omega
          have u : Up y12 y16 := by rw [← hY]; exact (Up.refl y12).alloc (.cells NZ 85)
          rw [hb, hY]
          refine hK.out _ _ ⟨⟨hHeld.1.1.trans u, hHeld.1.2.trans u⟩, u.blk hHeld.2.1, u.blk hHeld.2.2⟩ (fun hHeld => ?_)
          clear hK K hY hb u
          refine wpAnyH_ready (rs := [3]) (by kernel_rfl) (by simp) ?_
          refine AllReadyH.cons rfl (fun K hK => ?_) AllReadyH.nil
          go_simp
          refine (HFB.out _ hHeld.1.1).mono ?_
          rintro e y17 ⟨⟨cs, r, rfl, hF⟩, u⟩
          replace kz := u.blk kz
          go_wp2_with fail
          refine hK.out _ _ ⟨⟨hHeld.1.1.trans u, hHeld.1.2.trans u⟩, u.blk hHeld.2.1, u.blk hHeld.2.2⟩ (fun hHeld => ?_)
          clear hK K u
          refine takeH (i := 4) (d := (some 22)) (v := ?v31) rfl rfl (by kernel_rfl) (by kernel_rfl) (by kernel_rfl) (fun _ _ _ h => h) (by rfl) ?hy31 (by assumption) ?_
          case hy31 => ((intro w hSw; (try dsimp only at hSw); (try go_split_ands); go_simp); try with_reducible rfl)
          simp only [Act.put, List.setIfInBounds_toArray, List.set_cons_zero, List.set_cons_succ]
          refine takeH (i := 5) (d := (some 27)) (v := ?v32) rfl rfl (by kernel_rfl) (by kernel_rfl) (by kernel_rfl) (fun _ _ _ h => h) (by rfl) ?hy32 (by assumption) ?_
          case hy32 => ((intro w hSw; (try dsimp only at hSw); (try go_split_ands); go_simp); try with_reducible rfl)
          simp only [Act.put, List.setIfInBounds_toArray, List.set_cons_zero, List.set_cons_succ]
          refine takeH (i := 6) (d := (some 28)) (v := ?v33) rfl rfl (by kernel_rfl) (by kernel_rfl) (by kernel_rfl) (fun _ _ _ h => h) (by rfl) ?hy33 (by assumption) ?_
          case hy33 => ((intro w hSw; (try dsimp only at hSw); (try go_split_ands); go_simp); try with_reducible rfl)
          simp only [Act.put, List.setIfInBounds_toArray, List.set_cons_zero, List.set_cons_succ]
          obtain ⟨ff, hO, hB⟩ := HOC.out _ _ _ hF
          have hsz := hO.size
          have hone := hO.one
          have hst := run_numStore_row y17 bz NZ cs kz (Lib.hid NZ_size) hone
          refine wpAnyH_ready (rs := [8]) (by kernel_rfl) (by simp) ?_
          refine AllReadyH.cons rfl (fun K hK => ?_) AllReadyH.nil
          go_simp
          obtain ⟨y18, hY⟩ : ∃ Y, y17.setRow bz cs = Y := ⟨_, rfl⟩
          have kz2 : mblk y18 bz = some (.cells cs 85 (0, 0)) := by rw [← hY]; exact blk_setRow kz cs
          have g : y17.grownBy y18 (some bz) := by rw [← hY]; exact grown_row _ _ _
          rw [hY]
          refine hK.out _ _ ⟨⟨hHeld.1.1.grown g (fun k e => by have := Option.some.inj e; have := UW1.size; omega), hHeld.1.2.grown g (fun k e => by have := Option.some.inj e; omega)⟩, grown_blk g hHeld.2.1 (fun e => by have := Option.some.inj e; omega), grown_blk g hHeld.2.2 (fun e => by have := Option.some.inj e; omega)⟩ (fun hHeld => ?_)
          clear hK K hY g hst
          refine takeH (i := 9) (d := (some 9)) (v := ?v35) rfl rfl (by kernel_rfl) (by kernel_rfl) (by kernel_rfl) (fun _ _ _ h => h) (by rfl) ?hy35 (by assumption) ?_
          case hy35 => ((intro w hSw; (try dsimp only at hSw); (try go_split_ands); go_simp); try with_reducible rfl)
          simp only [Act.put, List.setIfInBounds_toArray, List.set_cons_zero, List.set_cons_succ]
          refine wpAnyH_done (by kernel_rfl) ?_ _
          exact HKey.out _ bz cs r ⟨hHeld.1.1, hHeld.1.2, kz2, hbz, hF⟩
      · go_simp
        obtain ⟨y19, hY⟩ : ∃ Y, (W1.alloc (.cells NZ 85)).drew = Y := ⟨_, rfl⟩
        obtain ⟨bz, hb⟩ : ∃ b, W1.heap.size = b := ⟨_, rfl⟩
        have kz : mblk y19 bz = some (.cells NZ 85 (0, 0)) := by rw [← hY, blk_drew]; exact blk_new _ _ _ hb.symm
        have hbz : W1.heap.size ≤ bz := by have := hHeld.1.2.size; rw [← hb]; exact Nat.le_refl _
        have u : Up W1.drew y19 := by rw [← hY]; exact (Up.refl W1.drew).alloc (.cells NZ 85)
        rw [hb, hY]
        refine hK.out _ _ ⟨⟨hHeld.1.1.trans u, hHeld.1.2.trans u⟩, u.blk hHeld.2.1, u.blk hHeld.2.2⟩ (fun hHeld => ?_)
        clear hK K hY hb u
        refine wpAnyH_ready (rs := [2]) (by kernel_rfl) (by simp) ?_
        refine AllReadyH.cons rfl (fun K hK => ?_) AllReadyH.nil
        go_simp
        refine (downwards_any _).mono ?_
        rintro e y20 ⟨rfl, u⟩
        replace kz := u.blk kz
        go_wp2_with fail
        refine hK.out _ _ ⟨⟨hHeld.1.1.trans u, hHeld.1.2.trans u⟩, u.blk hHeld.2.1, u.blk hHeld.2.2⟩ (fun hHeld => ?_)
        clear hK K u
        refine wpAnyH_ready (rs := [3]) (by kernel_rfl) (by simp) ?_
        refine AllReadyH.cons rfl (fun K hK => ?_) AllReadyH.nil
        go_simp
        refine (HFB.out _ hHeld.1.1).mono ?_
        rintro e y21 ⟨⟨cs, r, rfl, hF⟩, u⟩
        replace kz := u.blk kz
        go_wp2_with fail
        refine hK.out _ _ ⟨⟨hHeld.1.1.trans u, hHeld.1.2.trans u⟩, u.blk hHeld.2.1, u.blk hHeld.2.2⟩ (fun hHeld => ?_)
        clear hK K u
        refine takeH (i := 4) (d := (some 22)) (v := ?v38) rfl rfl (by kernel_rfl) (by kernel_rfl) (by kernel_rfl) (fun _ _ _ h => h) (by rfl) ?hy38 (by assumption) ?_
        case hy38 => ((intro w hSw; (try dsimp only at hSw); (try go_split_ands); go_simp); try with_reducible rfl)
        simp only [Act.put, List.setIfInBounds_toArray, List.set_cons_zero, List.set_cons_succ]
        refine takeH (i := 5) (d := (some 27)) (v := ?v39) rfl rfl (by kernel_rfl) (by kernel_rfl) (by kernel_rfl) (fun _ _ _ h => h) (by rfl) ?hy39 (by assumption) ?_
        case hy39 => ((intro w hSw; (try dsimp only at hSw); (try go_split_ands); go_simp); try with_reducible rfl)
        simp only [Act.put, List.setIfInBounds_toArray, List.set_cons_zero, List.set_cons_succ]
        refine takeH (i := 6) (d := (some 28)) (v := ?v40) rfl rfl (by kernel_rfl) (by kernel_rfl) (by kernel_rfl) (fun _ _ _ h => h) (by rfl) ?hy40 (by assumption) ?_
        case hy40 => ((intro w hSw; (try dsimp only at hSw); (try go_split_ands); go_simp); try with_reducible rfl)
        simp only [Act.put, List.setIfInBounds_toArray, List.set_cons_zero, List.set_cons_succ]
        obtain ⟨ff, hO, hB⟩ := HOC.out _ _ _ hF
        have hsz := hO.size
        have hone := hO.one
        have hst := run_numStore_row y21 bz NZ cs kz (Lib.hid NZ_size) hone
        refine wpAnyH_ready (rs := [8]) (by kernel_rfl) (by simp) ?_
        refine AllReadyH.cons rfl (fun K hK => ?_) AllReadyH.nil
        go_simp
        obtain ⟨y22, hY⟩ : ∃ Y, y21.setRow bz cs = Y := ⟨_, rfl⟩
        have kz2 : mblk y22 bz = some (.cells cs 85 (0, 0)) := by rw [← hY]; exact blk_setRow kz cs
        have g : y21.grownBy y22 (some bz) := by rw [← hY]; exact grown_row _ _ _
        rw [hY]
        refine hK.out _ _ ⟨⟨hHeld.1.1.grown g (fun k e => by have := Option.some.inj e; have := UW1.size; omega), hHeld.1.2.grown g (fun k e => by have := Option.some.inj e; omega)⟩, grown_blk g hHeld.2.1 (fun e => by have := Option.some.inj e; omega), grown_blk g hHeld.2.2 (fun e => by have := Option.some.inj e; omega)⟩ (fun hHeld => ?_)
        clear hK K hY g hst
        refine takeH (i := 9) (d := (some 9)) (v := ?v42) rfl rfl (by kernel_rfl) (by kernel_rfl) (by kernel_rfl) (fun _ _ _ h => h) (by rfl) ?hy42 (by assumption) ?_
        case hy42 => ((intro w hSw; (try dsimp only at hSw); (try go_split_ands); go_simp); try with_reducible rfl)
        simp only [Act.put, List.setIfInBounds_toArray, List.set_cons_zero, List.set_cons_succ]
        refine wpAnyH_done (by kernel_rfl) ?_ _
        exact HKey.out _ bz cs r ⟨hHeld.1.1, hHeld.1.2, kz2, hbz, hF⟩
    intro W2 bb cb r2 ⟨UW2, uB, kL, hbb, hF2⟩
    replace kS := uB.blk kS
    replace kR := uB.blk kR
    obtain ⟨g, hO2, hB2⟩ := HOC.out _ _ _ hF2
    have HF2 := Lib.hid (And.intro hF2 (And.intro hO2 hB2))
    have z2 := uB.size
    have lS := blk_lt kS
    have lL := blk_lt kL
    have lR := blk_lt kR
    have hmx : Try.prog.follows .mixedOrders = true := by kernel_rfl
    obtain ⟨q5, e5⟩ : ∃ x, W2.heap.size = x := ⟨_, rfl⟩
    obtain ⟨X, hX⟩ : ∃ x, W2.alloc (.cells SZ 147) = x := ⟨_, rfl⟩
    have u5 : Up W2 X := by rw [← hX]; exact (Up.refl W2).alloc _
    have kA : mblk X q5 = some (.cells SZ 147 (0, 0)) := by rw [← hX]; exact blk_new _ _ _ e5.symm
    have z5 : X.heap.size = q5 + 1 := by rw [← hX]; simp; omega
    replace kS := u5.blk kS
    replace kL := u5.blk kL
    replace kR := u5.blk kR
    have UX := UW2.trans u5
    rw [e5] at lS lL lR
    clear hF2 hO2 hB2 HFB HOC UW1 UW2 uB kW u5 l0 l1 l2 hba hbb
    go_wp2_with fail
    try rw [e5]
    try rw [hX]
    clear hX e5
    have HKS := Lib.hid kS
    have HKL := Lib.hid kL
    have HKR := Lib.hid kR
    have HUX := Lib.hid UX
    clear kS kL kR UX
    go_loopw [29] (fun iv wr => ∃ (k : Nat) (ck : Array Value), k ≤ 17 ∧ iv = .int .i64 k ∧ mblk wr q5 = some (.cells ck 147 (0, 0)) ∧ T.SC ck (T.cut (fun i => -g i) k) (T.cut f k) ∧ X.grownBy wr (some q5)) (fun iv _ => 17 - (intOf iv).toNat)
    case atStart => exact ⟨0, SZ, by omega, rfl, kA, SZ_sc.congr (fun i h1 _ => by unfold T.cut; rw [if_neg (by omega)]) (fun i h1 _ => by unfold T.cut; rw [if_neg (by omega)]), up_grown (Up.refl X) _⟩
    case round =>
      clear kA
      obtain ⟨k, ck, hk, rfl, kA, hC, hG⟩ := hrel
      have kS := grown_blk hG HKS.out (fun e => by have := Option.some.inj e; omega)
      have kL := grown_blk hG HKL.out (fun e => by have := Option.some.inj e; omega)
      have kR := grown_blk hG HKR.out (fun e => by have := Option.some.inj e; omega)
      by_cases hlt : k < 17
      · have hlt' : (k : Int) < 17 := by omega
        obtain ⟨x, hx⟩ : ∃ z, g k = z := ⟨_, rfl⟩
        obtain ⟨y, hy⟩ : ∃ z, f k = z := ⟨_, rfl⟩
        have v1 : ca[k]? = some (.int .i64 y) := by rw [← hy]; exact HF.out.2.1.at_ k hlt
        have v2 : cb[k]? = some (.int .i64 x) := by rw [← hx]; exact HF2.out.2.1.at_ k hlt
        have b2 : (-60000000000 ≤ x ∧ x ≤ 60000000000) ∨ x = T.M := by rw [← hx]; exact HF2.out.2.2 k
        have ew : IntKind.i64.wrap (-x) = -x := IntWalk.i64_in _ (by unfold T.M at b2; omega)
        obtain ⟨nx, hnx⟩ : ∃ z, -x = z := ⟨_, rfl⟩
        replace ew := ew.trans hnx
        have hPut := Lib.hid ((hC.put k hlt nx y).congr (fun i _ _ => show T.put (T.cut (fun i => -g i) k) k nx i = T.cut (fun i => -g i) (k + 1) i by rw [← hnx, ← hx]; exact T.cut_put (fun i => -g i) k i) (fun i _ _ => show T.put (T.cut f k) k y i = T.cut f (k + 1) i by rw [← hy]; exact T.cut_put f k i))
        have hsz := hC.size
        clear b2 hx hy hC hnx
        go_wp2_with fail
        have F1 := Lib.hid (fun w (u : Up wr w) => show w.cell? ⟨bb, k, none⟩ = some (.int .i64 x) from (cellB (u.blk kL) k).trans v2)
        have F2 := Lib.hid (fun w (u : Up wr w) => show w.cell? ⟨ba, k, none⟩ = some (.int .i64 y) from (cellB (u.blk kS) k).trans v1)
        have HG := Lib.hid hG
        have HRel := Lib.hid kR
        clear v1 v2 kS kL hG kR HF HF2
        refine (wpIn_wide (n := 5)).1 ?_
        refine wpIn_nrm ?_
        refine T.regionQ (fun w' => Up wr w') 10 1 hmx (by kernel_rfl) (by kernel_rfl) ((Up.refl wr).drew) (fun hCl => ?_)
        refine T.qTake (i := 0) (d := (some 32)) (v := ?v43) rfl rfl (by kernel_rfl) (by decide) hCl (by kernel_rfl) (by kernel_rfl) (by kernel_rfl) (by rfl) ?hy43 (fun _ _ _ => trivial) (fun hCl' => ?_)
        case hy43 => (intro w hSw; refine T.qVal ?_ hSw; (have f1 := F1.out w hSw; have f2 := F2.out w hSw); go_simp; try with_reducible rfl)
        simp only [Act.put, List.setIfInBounds_toArray, List.set_cons_zero, List.set_cons_succ]
        replace hCl := hCl'; clear hCl'
        refine T.qTake (i := 1) (d := (some 33)) (v := ?v44) rfl rfl (by kernel_rfl) (by decide) hCl (by kernel_rfl) (by kernel_rfl) (by kernel_rfl) (by rfl) ?hy44 (fun _ _ _ => trivial) (fun hCl' => ?_)
        case hy44 => (intro w hSw; refine T.qVal ?_ hSw; (have f1 := F1.out w hSw; have f2 := F2.out w hSw); go_simp; try with_reducible rfl)
        simp only [Act.put, List.setIfInBounds_toArray, List.set_cons_zero, List.set_cons_succ]
        replace hCl := hCl'; clear hCl'
        refine T.qTake (i := 5) (d := (some 37)) (v := ?v45) rfl rfl (by kernel_rfl) (by decide) hCl (by kernel_rfl) (by kernel_rfl) (by kernel_rfl) (by rfl) ?hy45 (fun _ _ _ => trivial) (fun hCl' => ?_)
        case hy45 => (intro w hSw; refine T.qVal ?_ hSw; (have f1 := F1.out w hSw; have f2 := F2.out w hSw); go_simp; try with_reducible rfl)
        simp only [Act.put, List.setIfInBounds_toArray, List.set_cons_zero, List.set_cons_succ]
        replace hCl := hCl'; clear hCl'
        refine T.qTake (i := 2) (d := (some 34)) (v := ?v46) rfl rfl (by kernel_rfl) (by decide) hCl (by kernel_rfl) (by kernel_rfl) (by kernel_rfl) (by rfl) ?hy46 (fun _ _ _ => trivial) (fun hCl' => ?_)
        case hy46 => (intro w hSw; refine T.qVal ?_ hSw; (have f1 := F1.out w hSw; have f2 := F2.out w hSw); go_simp; try with_reducible rfl)
        simp only [Act.put, List.setIfInBounds_toArray, List.set_cons_zero, List.set_cons_succ]
        replace hCl := hCl'; clear hCl'
        refine T.qTake (i := 6) (d := (some 38)) (v := ?v47) rfl rfl (by kernel_rfl) (by decide) hCl (by kernel_rfl) (by kernel_rfl) (by kernel_rfl) (by rfl) ?hy47 (fun _ _ _ => trivial) (fun hCl' => ?_)
        case hy47 => (intro w hSw; refine T.qVal ?_ hSw; (have f1 := F1.out w hSw; have f2 := F2.out w hSw); go_simp; try with_reducible rfl)
        simp only [Act.put, List.setIfInBounds_toArray, List.set_cons_zero, List.set_cons_succ]
        replace hCl := hCl'; clear hCl'
        refine T.qTake (i := 3) (d := (some 35)) (v := ?v48) rfl rfl (by kernel_rfl) (by decide) hCl (by kernel_rfl) (by kernel_rfl) (by kernel_rfl) (by rfl) ?hy48 (fun _ _ _ => trivial) (fun hCl' => ?_)
        case hy48 => (intro w hSw; refine T.qVal ?_ hSw; (have f1 := F1.out w hSw; have f2 := F2.out w hSw); go_simp; try with_reducible rfl)
        simp only [Act.put, List.setIfInBounds_toArray, List.set_cons_zero, List.set_cons_succ]
        replace hCl := hCl'; clear hCl'
        refine T.qTake (i := 7) (d := (some 39)) (v := ?v49) rfl rfl (by kernel_rfl) (by decide) hCl (by kernel_rfl) (by kernel_rfl) (by kernel_rfl) (by rfl) ?hy49 (fun _ _ _ => trivial) (fun hCl' => ?_)
        case hy49 => (intro w hSw; refine T.qVal ?_ hSw; (have f1 := F1.out w hSw; have f2 := F2.out w hSw); go_simp; try with_reducible rfl)
        simp only [Act.put, List.setIfInBounds_toArray, List.set_cons_zero, List.set_cons_succ]
        replace hCl := hCl'; clear hCl'
        refine T.qTake (i := 4) (d := (some 36)) (v := ?v50) rfl rfl (by kernel_rfl) (by decide) hCl (by kernel_rfl) (by kernel_rfl) (by kernel_rfl) (by rfl) ?hy50 (fun _ _ _ => trivial) (fun hCl' => ?_)
        case hy50 => (intro w hSw; refine T.qVal ?_ hSw; (have f1 := F1.out w hSw; have f2 := F2.out w hSw); go_simp; try with_reducible rfl)
        simp only [Act.put, List.setIfInBounds_toArray, List.set_cons_zero, List.set_cons_succ]
        replace hCl := hCl'; clear hCl'
        refine T.qTake (i := 8) (d := (some 40)) (v := ?v51) rfl rfl (by kernel_rfl) (by decide) hCl (by kernel_rfl) (by kernel_rfl) (by kernel_rfl) (by rfl) ?hy51 (fun _ _ _ => trivial) (fun hCl' => ?_)
        case hy51 => (intro w hSw; refine T.qVal ?_ hSw; (have f1 := F1.out w hSw; have f2 := F2.out w hSw); go_simp; try with_reducible rfl)
        simp only [Act.put, List.setIfInBounds_toArray, List.set_cons_zero, List.set_cons_succ]
        replace hCl := hCl'; clear hCl'
        refine T.qTake (i := 9) (d := (some 41)) (v := ?v52) rfl rfl (by kernel_rfl) (by decide) hCl (by kernel_rfl) (by kernel_rfl) (by kernel_rfl) (by rfl) ?hy52 (fun _ _ _ => trivial) (fun hCl' => ?_)
        case hy52 => (intro w hSw; refine T.qVal ?_ hSw; (have f1 := F1.out w hSw; have f2 := F2.out w hSw); go_simp; try with_reducible rfl)
        simp only [Act.put, List.setIfInBounds_toArray, List.set_cons_zero, List.set_cons_succ]
        replace hCl := hCl'; clear hCl'
        refine T.tail_intro (by kernel_rfl) (fun Y hY => ?_)
        have kA2 := hY.blk kA
        have fA := frozB kA2
        have lA := blk_lt kA2
        have j1 : 2 * k < ck.size := by omega
        have j2 : 2 * k + 1 < ck.size := by omega
        have c1 : ∃ v, Y.cell? ⟨q5, 2 * k, none⟩ = some v := ⟨_, (cellB kA2 (2 * k)).trans (Array.getElem?_eq_getElem j1)⟩
        have c2 : ∃ v, Y.cell? ⟨q5, 2 * k + 1, none⟩ = some v := ⟨_, (cellB kA2 (2 * k + 1)).trans (Array.getElem?_eq_getElem j2)⟩
        obtain ⟨vc1, c1⟩ := c1
        obtain ⟨vc2, c2⟩ := c2
        have hIx : k * 2 = 2 * k := by omega
        refine lastG (i := 10) (by kernel_rfl) rfl (by rfl) (by decide) (fun K hK => ?_)
        go_simp
        try rw [ew]
        refine hK.out _ _ ?_
        clear hK K
        refine doneG (by kernel_rfl) ?_ _
        refine S.nrm_intro ?_
        obtain ⟨Z, hZ⟩ : ∃ z, (Y.setCell ⟨q5, 2 * k, none⟩ (.int .i64 nx)).setCell ⟨q5, 2 * k + 1, none⟩ (.int .i64 y) = z := ⟨_, rfl⟩
        have kZ : mblk Z q5 = some (.cells ((ck.setIfInBounds (2 * k) (.int .i64 nx)).setIfInBounds (2 * k + 1) (.int .i64 y)) 147 (0, 0)) := by rw [← hZ]; exact blk_put (blk_put kA2 (2 * k) _) (2 * k + 1) _
        have gZ := Lib.hid (show X.grownBy Z (some q5) by rw [← hZ]; exact grown_trans (grown_trans (grown_trans HG.out (up_grown hY (some q5))) (grown_set Y q5 (2 * k) _)) (grown_set _ q5 (2 * k + 1) _))
        rw [hZ]
        clear hZ kA2 fA lA c1 c2 j1 j2 hIx hY kA F1 F2 HG HRel
        go_wp2
        go_roundw
        case rel => exact ⟨k + 1, _, by omega, by go_num, kZ, hPut.out, gZ.out⟩
        case measure => simp [intOf]; omega
      · obtain rfl : k = 17 := by omega
        have hlt' : ¬ ((17 : Nat) : Int) < 17 := by omega
        have hsz := Lib.hid hC.size
        have hst := run_spsStore_row wr q1 SZ ck kR HZ hC.one
        have kF := Lib.hid (blk_setRow kR ck)
        have UF := Lib.hid ((HUX.out.grown hG (fun k e => by have := Option.some.inj e; omega)).grown (grown_row wr q1 ck) (fun k e => by have := Option.some.inj e; omega))
        have HC := Lib.hid (hC.congr (lo' := fun i => -g i) (hi' := f) (fun i _ _ => by unfold T.cut; rw [if_pos (by omega)]) (fun i _ _ => by unfold T.cut; rw [if_pos (by omega)]))
        clear kS kL kR hG hC
        go_wp2_with fail
        exact bodyPost_ret (results_sps rfl _ _ _ _ rfl kF.out hsz.out) rfl ⟨⟨ck, true, rfl, .inr ⟨rfl, ca, cb, r2, f, g, HF.out.1, HF2.out.1, HF.out.2.1, HF2.out.2.1, HF.out.2.2, HF2.out.2.2, HC.out⟩⟩, UF.out⟩
end

end Go.Proofs.Ytlpkheoljbdajaa
