import Derived.Test.YtcmdaiklkdeanaaAre
import Derived.Laws.ResultCell
/- The contract of newOffsets. -/
namespace Go.Proofs.Ytcmdaiklkdeanaa
open Go.RowKit Go.Shelf
attribute [local go_sem] Oper.semAt_some

/-- rows of numbers, in memory -/
structure T.Rows (w : World) (v : Value) (rows : List (List Int)) : Prop where
  mk :: (is : ∃ a c, v = .slice a rows.length c ∧ rows.length ≤ c ∧ rows.length ≤ 9223372036854775807 ∧ (0 < rows.length → ∃ g off, a = some ⟨g, off, none⟩ ∧ g < w.heap.size ∧ ∀ j, j < rows.length → ∃ u, w.cell? ⟨g, off + j, none⟩ = some u ∧ Ints w u (rows.getD j [])))
theorem T.Rows.up {w w' : World} {v : Value} {rows : List (List Int)} (h : T.Rows w v rows) (u : Up w w') : T.Rows w' v rows := by
  obtain ⟨a, c, e, hc, hl, hm⟩ := h.is
  refine ⟨a, c, e, hc, hl, fun h0 => ?_⟩
  obtain ⟨g, off, e1, e2, e3⟩ := hm h0
  refine ⟨g, off, e1, by have := u.size; omega, fun j hj => ?_⟩
  obtain ⟨x, x1, x2⟩ := e3 j hj
  exact ⟨x, (u.facts.1 g _ e2).trans x1, x2.up u⟩
theorem T.Rows.len {w : World} {a : Option Addr} {n c : Nat} {rows : List (List Int)} (I : T.Rows w (.slice a n c) rows) : n = rows.length := by
  obtain ⟨a', c', e, _⟩ := I.is
  injection e
theorem T.Rows.nil (w : World) : T.Rows w (.slice none 0 0) [] := ⟨none, 0, rfl, Nat.le_refl _, by simp, fun h => by simp at h⟩
/-- the offsets of so many rows, and of so many numbers of the next one -/
def T.offsTo (rows : List (List Int)) (k j : Nat) : Int × Int → Int := fun m => if m.1 < 0 then 0 else if m.1 < k ∨ (m.1 = k ∧ m.2 < j) then (rows.getD m.1.toNat []).getD m.2.toNat 0 else 0
def T.offs (rows : List (List Int)) : Int × Int → Int := T.offsTo rows rows.length 0
theorem T.offsTo_put {rows : List (List Int)} {k j : Nat} {cs : Array Value} (hk : k < 5) (hj : j < 13) (h : T.OC cs (T.offsTo rows k j)) : T.OC (cs.setIfInBounds (T.pl ((k : Int), (j : Int))) (.int .i64 ((rows.getD k []).getD j 0))) (T.offsTo rows k (j + 1)) := by
  have q := h.put (m := ((k : Int), (j : Int))) ⟨⟨by show -1 ≤ (k : Int); omega, by show (k : Int) ≤ 4; omega⟩, by show (0 : Int) ≤ j; omega, by show (j : Int) ≤ 12; omega⟩ ((rows.getD k []).getD j 0)
  refine ⟨q.size, fun m hm => ?_⟩
  rw [q.at_ m hm]
  congr 2
  obtain ⟨c, h⟩ := m
  obtain ⟨⟨h1, h2⟩, h3, h4⟩ := hm
  simp only at h1 h2 h3 h4
  unfold T.put T.offsTo
  by_cases e : c = k ∧ h = j
  · obtain ⟨rfl, rfl⟩ := e
    rw [if_pos rfl]
    simp only
    rw [if_neg (by omega), if_pos (.inr ⟨trivial, by omega⟩)]
    rfl
  · rw [if_neg (by intro q; rw [Prod.mk.injEq] at q; exact e q)]
    simp only
    by_cases a1 : c < 0
    · rw [if_pos a1, if_pos a1]
    · rw [if_neg a1, if_neg a1]
      by_cases a2 : c < k ∨ (c = k ∧ h < j)
      · rw [if_pos a2, if_pos (by omega)]
      · rw [if_neg a2, if_neg (by omega)]
theorem T.offsTo_next {rows : List (List Int)} {k n : Nat} (hn : (rows.getD k []).length = n) {cs : Array Value} (h : T.OC cs (T.offsTo rows k n)) : T.OC cs (T.offsTo rows (k + 1) 0) := by
  refine ⟨h.size, fun m hm => ?_⟩
  rw [h.at_ m hm]
  congr 2
  obtain ⟨c, h⟩ := m
  obtain ⟨⟨h1, h2⟩, h3, h4⟩ := hm
  simp only at h1 h2 h3 h4
  unfold T.offsTo
  simp only
  by_cases a1 : c < 0
  · rw [if_pos a1, if_pos a1]
  · rw [if_neg a1, if_neg a1]
    by_cases a2 : c < k ∨ (c = k ∧ h < n)
    · rw [if_pos a2, if_pos (by omega)]
    · rw [if_neg a2]
      by_cases a3 : c = k
      · subst a3
        rw [if_pos (by omega)]
        have e : ((k : Int)).toNat = k := by omega
        rw [e, List.getD_eq_getElem?_getD, List.getElem?_eq_none (by omega)]
        rfl
      · rw [if_neg (by omega)]
theorem T.offsTo_zero (rows : List (List Int)) : T.OC OZ (T.offsTo rows 0 0) := ⟨OZ_size, fun m hm => by
  rw [OZ_at _ hm.lt]
  congr 2
  obtain ⟨c, h⟩ := m
  obtain ⟨⟨h1, h2⟩, h3, h4⟩ := hm
  simp only at h1 h2 h3 h4
  unfold T.offsTo
  simp only
  by_cases a1 : c < 0
  · rw [if_pos a1]
  · rw [if_neg a1, if_neg (by omega)]⟩
theorem results_off {fn : Func} {p u : Tmp} (h : fn.results = #[.cell p 87, .tmp u]) (tmps : Array Value) (w : World) (g : Nat) (cs : Array Value) (hp : tmps.getD p undef = .pointer (some ⟨g, 0, none⟩)) (hg : mblk w g = some (.cells cs 87 (0, 0))) (hs : cs.size = 78) :
    (results fn tmps).run Try.prog w = .ok (.tuple #[.agg cs, tmps.getD u undef]) w := by
  rw [results_cell_tmp h, hp]
  simp only [asAddr, Sem.run_pure, Result.andThen_ok, run_loadVar_row w g 87 87 cs (0, 0) _ hg Try.underlying87 rfl (by rw [Try.infoOff, hs])]
section
variable {H : Nat} {aR aO aP aT aV : Option Addr} {nR cR nO cO nP cP nT cT nV cV : Nat} {b0 b1 b2 b3 b4 : Bool}
set_option maxRecDepth 100000 in
set_option maxHeartbeats 2000000 in
theorem newOffsets_any {w : World} (hH : H ≤ 12) (hR : nR ≤ 5) {rows : List (List Int)} (I : T.Rows w (.slice aV nV cV) rows) :
    Calls Try.prog 45 #[WeV H (.slice aR nR cR) (.slice aO nO cO) (.slice aP nP cP) b0 b1 b2 b3 b4 (.slice aT nT cT), .slice aV nV cV] w fun e w' => (∃ cs r, e = .returned (.tuple #[.agg cs, .bool r]) ∧ Ok78 cs ∧ (r = true ↔ rows.length = nR ∧ ∀ x ∈ rows, x.length = H + 1) ∧ (r = true → T.OC cs (T.offs rows))) ∧ Up w w' := by
  have hn := I.len
  have hmx := I.is.elim fun _ h => h.elim fun _ h => h.2.2.1
  have HI := Lib.hid I
  clear I
  subst hn
  have hoz := Lib.hid OZ_size
  refine (callsIn_wide (n := 5)).1 ?_
  refine callsIn_of_wp Try.func45 rfl trivial ?_ rfl
  simp only [Try.ntmps45, List.size_toArray, List.length_cons, List.length_nil, Nat.reduceAdd, Nat.reduceSub, Array.replicate_succ, Array.replicate_zero, List.push_toArray, List.append_toArray, List.nil_append, List.cons_append]
  by_cases hlen : rows.length = nR
  case neg =>
    have hcmp : ((rows.length : Int) != (nR : Int)) = true := by rw [bne_iff_ne]; omega
    have k4 : mblk (((w.alloc (.cells (WeC H (.slice aR nR cR) (.slice aO nO cO) (.slice aP nP cP) b0 b1 b2 b3 b4 (.slice aT nT cT)) 82)).alloc (.cells OZ 87)).alloc (.cells OZ 87)) (w.heap.size + 1) = some (.cells OZ 87 (0, 0)) := blk_keep _ (blk_new _ _ _ (by simp))
    have hst := run_offStore_row _ _ OZ OZ k4 hoz OZ_ok
    have kz := blk_setRow k4 OZ
    have UZ := ((((Up.refl w).alloc (.cells (WeC H (.slice aR nR cR) (.slice aO nO cO) (.slice aP nP cP) b0 b1 b2 b3 b4 (.slice aT nT cT)) 82)).alloc (.cells OZ 87)).alloc (.cells OZ 87)).setRow (g := w.heap.size + 1) (by omega) OZ
    obtain ⟨Z, hZ⟩ : ∃ z, (((w.alloc (.cells (WeC H (.slice aR nR cR) (.slice aO nO cO) (.slice aP nP cP) b0 b1 b2 b3 b4 (.slice aT nT cT)) 82)).alloc (.cells OZ 87)).alloc (.cells OZ 87)).setRow (w.heap.size + 1) OZ = z := ⟨_, rfl⟩
    rw [hZ] at hst kz UZ
    clear hZ k4
    gi_wp2_with fail
    exact bodyPost_ret (results_off rfl _ _ _ OZ rfl kz OZ_size) rfl ⟨⟨OZ, false, rfl, OZ_ok, ⟨fun e => (by cases e), fun e => absurd e.1 hlen⟩, fun e => (by cases e)⟩, UZ⟩
  have hcmp : ((rows.length : Int) != (nR : Int)) = false := by rw [bne_eq_false_iff_eq]; omega
  have hle5 : rows.length ≤ 5 := by omega
  have HLEN := Lib.hid hlen
  clear hlen
  gi_wp2_with fail
  obtain ⟨W0, hW0⟩ : ∃ x, ((w.alloc (.cells (WeC H (.slice aR nR cR) (.slice aO nO cO) (.slice aP nP cP) b0 b1 b2 b3 b4 (.slice aT nT cT)) 82)).alloc (.cells OZ 87)).alloc (.cells OZ 87) = x := ⟨_, rfl⟩
  obtain ⟨q0, e0⟩ : ∃ x, w.heap.size = x := ⟨_, rfl⟩
  obtain ⟨q1, e1⟩ : ∃ x, q0 + 1 = x := ⟨_, rfl⟩
  obtain ⟨q2, e2⟩ : ∃ x, q1 + 1 = x := ⟨_, rfl⟩
  have U0 : Up w W0 := by rw [← hW0]; exact (((Up.refl w).alloc _).alloc _).alloc _
  have kW : mblk W0 q0 = some (.cells (WeC H (.slice aR nR cR) (.slice aO nO cO) (.slice aP nP cP) b0 b1 b2 b3 b4 (.slice aT nT cT)) 82 (0, 0)) := by rw [← hW0]; exact blk_keep _ (blk_keep _ (blk_new _ _ _ e0.symm))
  have kR : mblk W0 q1 = some (.cells OZ 87 (0, 0)) := by rw [← hW0]; exact blk_keep _ (blk_new _ _ _ (by simp; omega))
  have kO : mblk W0 q2 = some (.cells OZ 87 (0, 0)) := by rw [← hW0]; exact blk_new _ _ _ (by simp; omega)
  rw [hW0, e0, e1, e2]
  clear hW0
  gi_loopw [22] (fun i wr => ∃ (k : Nat) (cs : Array Value), k ≤ rows.length ∧ i = .int .i64 k ∧ (∀ j, j < k → (rows.getD j []).length = H + 1) ∧ T.OC cs (T.offsTo rows k 0) ∧ mblk wr q2 = some (.cells cs 87 (0, 0)) ∧ mblk wr q1 = some (.cells OZ 87 (0, 0)) ∧ mblk wr q0 = some (.cells (WeC H (.slice aR nR cR) (.slice aO nO cO) (.slice aP nP cP) b0 b1 b2 b3 b4 (.slice aT nT cT)) 82 (0, 0)) ∧ Up w wr) (fun i _ => rows.length - (intOf i).toNat)
  case atStart => exact ⟨0, OZ, Nat.zero_le _, rfl, fun j hj => by omega, T.offsTo_zero rows, kO, kR, kW, U0⟩
  case round =>
    clear kO kR kW U0
    obtain ⟨k, cs, hk, rfl, hls, hO, kO, kR, kW, V⟩ := hrel
    have lO := blk_lt kO
    have lR := blk_lt kR
    have lW := blk_lt kW
    have hs2 := Lib.hid hO.size
    have hok := hO.one
    by_cases hlt : k < rows.length
    · obtain ⟨a1, c1, e1', _, _, hm1⟩ := HI.out.is
      injection e1' with e1' e2' e3'
      subst e1' e3'
      clear e2'
      obtain ⟨g, off, rfl, gl, hc⟩ := hm1 (by omega)
      obtain ⟨u, hu0, hIu⟩ := hc k hlt
      have hu := (V.facts.1 g _ gl).trans hu0
      replace gl : g < wr.heap.size := by have := V.size; omega
      clear hm1 hc hu0
      obtain ⟨ua, uc, rfl, hu1, hu2, hu3⟩ := hIu.is
      have HU := Lib.hid hIu
      have HROW := Lib.hid (show rows.getD k [] ∈ rows by rw [List.getD_eq_getElem?_getD, List.getElem?_eq_getElem hlt]; exact List.getElem_mem hlt)
      obtain ⟨row, hrow⟩ : ∃ r, rows.getD k [] = r := ⟨_, rfl⟩
      rw [hrow] at hu hu1 hu2 hu3 HU HROW
      have ew : IntKind.i64.wrap ((H : Int) + 1) = (H : Int) + 1 := IntWalk.i64_in _ (by omega)
      clear hIu
      by_cases hrl : row.length = H + 1
      case neg =>
        have hcmp2 : ((row.length : Int) != (H : Int) + 1) = true := by rw [bne_iff_ne]; omega
        have hst := run_offStore_row wr q1 OZ cs kR hoz hok
        have kz := blk_setRow kR cs
        have UZ := V.setRow (g := q1) (by omega) cs
        obtain ⟨Z, hZ⟩ : ∃ z, wr.setRow q1 cs = z := ⟨_, rfl⟩
        rw [hZ] at hst kz UZ
        clear hZ
        gi_wp2_with fail
        exact bodyPost_ret (results_off rfl _ _ _ cs rfl kz hO.size) rfl ⟨⟨cs, false, rfl, hok, ⟨fun e => (by cases e), fun e => absurd (e.2 row HROW.out) hrl⟩, fun e => (by cases e)⟩, UZ⟩
      have hcmp2 : ((row.length : Int) != (H : Int) + 1) = false := by rw [bne_eq_false_iff_eq]; omega
      have hr13 : row.length ≤ 13 := by omega
      have HRL := Lib.hid hrl
      clear hrl
      gi_wp2_with fail
      gi_loopw [38] (fun i wr => ∃ (j : Nat) (cs : Array Value), j ≤ row.length ∧ i = .int .i64 j ∧ T.OC cs (T.offsTo rows k j) ∧ mblk wr q2 = some (.cells cs 87 (0, 0)) ∧ mblk wr q1 = some (.cells OZ 87 (0, 0)) ∧ mblk wr q0 = some (.cells (WeC H (.slice aR nR cR) (.slice aO nO cO) (.slice aP nP cP) b0 b1 b2 b3 b4 (.slice aT nT cT)) 82 (0, 0)) ∧ Up w wr) (fun i _ => row.length - (intOf i).toNat)
      case atStart => exact ⟨0, cs, Nat.zero_le _, rfl, hO, kO, kR, kW, V⟩
      case round =>
        clear kO kR kW V hO hs2 hok lO lR lW
        obtain ⟨j, cs, hj, rfl, hO, kO, kR, kW, V⟩ := hrel
        by_cases hjt : j < row.length
        · obtain ⟨ua', uc', e1', _, _, hu4⟩ := (HU.out.up V).is
          injection e1' with e1' e2' e3'
          subst e1' e3'
          clear e2'
          obtain ⟨gu, offu, rfl, gul, hcu⟩ := hu4 (by omega)
          have cu := hcu j hjt
          have hO2 := Lib.hid (T.offsTo_put (by omega) (by omega) hO)
          rw [hrow] at hO2
          have in6 : T.in6 ((k : Int), (j : Int)) := ⟨⟨by show -1 ≤ (k : Int); omega, by show (k : Int) ≤ 4; omega⟩, by show (0 : Int) ≤ j; omega, by show (j : Int) ≤ 12; omega⟩
          have HP := Lib.hid (fun B w => oat_any (B := B) (w := w) in6)
          have HK := Lib.hid (fun w => at_clock (k : Int) (j : Int) w (by omega))
          have hpl := in6.lt
          have hsz := hO.size
          obtain ⟨p, hp⟩ : ∃ z, T.pl ((k : Int), (j : Int)) = z := ⟨_, rfl⟩
          rw [hp] at hO2 HP hpl
          obtain ⟨n, hn⟩ : ∃ z, row.getD j 0 = z := ⟨_, rfl⟩
          rw [hn] at cu hO2
          clear hu4 hcu in6 hp hn
          gi_wp2_with fail
          refine ⟨trivial, (callsIn_wide.2 (HK.out _)).mono ?_⟩
          rintro e w1 ⟨rfl, u1⟩
          gi_wp2_with fail
          refine ⟨trivial, (callsIn_wide.2 (HP.out _ _)).mono ?_⟩
          rintro e w2 ⟨rfl, u2⟩
          have u := u1.trans u2
          replace kO := u.blk kO
          replace kR := u.blk kR
          replace kW := u.blk kW
          have fO := frozB kO
          have l1 : p < cs.size := by omega
          obtain ⟨vx, cx⟩ : ∃ v, w2.cell? ⟨q2, p, none⟩ = some v := ⟨_, (cellB kO p).trans (Array.getElem?_eq_getElem l1)⟩
          have g2 := grown_set w2 q2 p (.int .i64 n)
          have V2 := V.trans u
          clear HK HP cu u1 u2
          obtain ⟨w3, hw3⟩ : ∃ z, w2.setCell ⟨q2, p, none⟩ (.int .i64 n) = z := ⟨_, rfl⟩
          rw [hw3] at g2
          have kO3 : mblk w3 q2 = some (.cells (cs.setIfInBounds p (.int .i64 n)) 87 (0, 0)) := by rw [← hw3]; exact blk_put kO p _
          have kR3 := grown_blk g2 kR (fun e => by have := Option.some.inj e; omega)
          have kW3 := grown_blk g2 kW (fun e => by have := Option.some.inj e; omega)
          have V3 := V2.grown g2 (fun k e => by have := Option.some.inj e; omega)
          gi_wp2_with fail
          exact ⟨⟨j + 1, _, by omega, by go_num, hO2.out, kO3, kR3, kW3, V3⟩, by simp [intOf]; omega⟩
        · obtain rfl : j = row.length := by omega
          have hO2 := T.offsTo_next (by rw [hrow]) hO
          gi_wp2
          go_roundw
          case rel => exact ⟨k + 1, cs, by omega, by go_num, fun i hi => by
            by_cases e : i = k
            · rw [e, hrow]; exact HRL.out
            · exact hls i (by omega), hO2, kO, kR, kW, V⟩
          case measure => simp [intOf]; omega
    · obtain rfl : k = rows.length := by omega
      have hst := run_offStore_row wr q1 OZ cs kR hoz hok
      have kz := blk_setRow kR cs
      have UZ := V.setRow (g := q1) (by omega) cs
      obtain ⟨Z, hZ⟩ : ∃ z, wr.setRow q1 cs = z := ⟨_, rfl⟩
      rw [hZ] at hst kz UZ
      clear hZ
      gi_wp2_with fail
      exact bodyPost_ret (results_off rfl _ _ _ cs rfl kz hO.size) rfl ⟨⟨cs, true, rfl, hok, ⟨fun _ => ⟨HLEN.out, fun x hx => by
        obtain ⟨i, hi, rfl⟩ := List.getElem_of_mem hx
        have := hls i hi
        rw [List.getD_eq_getElem?_getD, List.getElem?_eq_getElem hi] at this
        exact this⟩, fun _ => rfl⟩, fun _ => hO⟩, UZ⟩
end

end Go.Proofs.Ytcmdaiklkdeanaa
