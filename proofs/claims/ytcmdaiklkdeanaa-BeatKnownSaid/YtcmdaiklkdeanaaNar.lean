import Derived.Test.YtcmdaiklkdeanaaArr
import Derived.Test.YtcmdaiklkdeanaaHeQ
import Derived.Test.YtcmdaiklkdeanaaKno
/- The contract of narrow, to each side. -/
namespace Go.Proofs.Ytcmdaiklkdeanaa
open Go.RowKit Go.Shelf
attribute [local go_sem] Oper.semAt_some

/-- ties, in memory -/
def T.encT : T.T6 → Nat → Int
  | (c, _, _, _, _, _), 0 => c
  | (_, h, _, _, _, _), 1 => h
  | (_, _, c, _, _, _), 2 => c
  | (_, _, _, h, _, _), 3 => h
  | (_, _, _, _, l, _), 4 => l
  | (_, _, _, _, _, u), _ => u
abbrev Tis := Tab 6 T.encT (0, 0, 0, 0, 0, 0)
/-- a web in the calculation -/
abbrev WeC (H : Int) (R O P : Value) (b0 b1 b2 b3 b4 : Bool) (t : Value) : Array Value := #[.int .i64 H, R, O, P, .bool b0, .bool b1, .bool b2, .bool b3, .bool b4, t]
abbrev WeV (H : Int) (R O P : Value) (b0 b1 b2 b3 b4 : Bool) (t : Value) : Value := .agg (WeC H R O P b0 b1 b2 b3 b4 t)
/-- one offset is brought as near to another one as a tie demands -/
def T.rlx (f : Int × Int → Int) (o : Int × Int → Int) (t : T.T6) : Int × Int → Int := T.put o (T.one t) (min (o (T.one t)) (o (T.oth t) + f (T.by t)))
def T.rlxAll (f : Int × Int → Int) (o : Int × Int → Int) (ts : List T.T6) : Int × Int → Int := ts.foldl (T.rlx f) o
theorem T.rlxAll_take (f : Int × Int → Int) (o : Int × Int → Int) {ts : List T.T6} {k : Nat} (hk : k < ts.length) : T.rlx f (T.rlxAll f o (ts.take k)) (ts.getD k (0, 0, 0, 0, 0, 0)) = T.rlxAll f o (ts.take (k + 1)) := by
  unfold T.rlxAll
  rw [List.take_succ_eq_append_getElem hk, List.foldl_append, List.getD_eq_getElem?_getD, List.getElem?_eq_getElem hk]
  rfl
/-- offsets lie between two numbers -/
def T.Bnd (L U : Int) (o : Int × Int → Int) : Prop := ∀ m, T.in6 m → L ≤ o m ∧ o m ≤ U
theorem T.Bnd.rlx {L U F : Int} {f o : Int × Int → Int} {t : T.T6} (h : T.Bnd L U o) (hF : 0 ≤ F) (h1 : T.in6 (T.one t)) (h2 : T.in6 (T.oth t)) (hf : -F ≤ f (T.by t)) : T.Bnd (L - F) U (T.rlx f o t) := fun m hm => by
  unfold T.rlx T.put
  have a := h m hm
  have b := h _ h1
  have c := h _ h2
  split
  · omega
  · omega
theorem T.Bnd.all {L U F : Int} {f o : Int × Int → Int} {ts : List T.T6} (h : T.Bnd L U o) (hF : 0 ≤ F) (hts : ∀ t ∈ ts, T.in6 (T.one t) ∧ T.in6 (T.oth t) ∧ -F ≤ f (T.by t)) : T.Bnd (L - F * ts.length) U (T.rlxAll f o ts) := by
  induction ts generalizing L o with
  | nil => intro m hm; have := h m hm; simpa [T.rlxAll] using this
  | cons t ts ih =>
    obtain ⟨h1, h2, h3⟩ := hts t List.mem_cons_self
    have q := ih (h.rlx hF h1 h2 h3) fun u hu => hts u (List.mem_cons_of_mem _ hu)
    have e : L - F - F * (ts.length : Int) = L - F * ((t :: ts).length : Int) := by
      rw [List.length_cons]
      push_cast
      rw [Int.mul_add]
      omega
    rw [← e]; exact q
/-- how far a span reaches to a side -/
def T.sHi (s : Int × Int) : Int := s.2
def T.sLo (s : Int × Int) : Int := -s.1
/-- ties of moments that have a place, whose spans go not too far -/
def T.Tok (ts : List T.T6) : Prop := ∀ t ∈ ts, T.in6 (T.one t) ∧ T.in6 (T.oth t) ∧ T.Bs 10000000 (T.by t)
theorem T.Tok.hi {ts : List T.T6} (h : T.Tok ts) : ∀ t ∈ ts, T.in6 (T.one t) ∧ T.in6 (T.oth t) ∧ -10000000 ≤ T.sHi (T.by t) := fun t ht => ⟨(h t ht).1, (h t ht).2.1, (h t ht).2.2.2.1⟩
theorem T.Tok.lo {ts : List T.T6} (h : T.Tok ts) : ∀ t ∈ ts, T.in6 (T.one t) ∧ T.in6 (T.oth t) ∧ -10000000 ≤ T.sLo (T.by t) := fun t ht => ⟨(h t ht).1, (h t ht).2.1, by have := (h t ht).2.2.1.2; unfold T.sLo; omega⟩
theorem Tab.at {k : Nat} {α : Type} {enc : α → Nat → Int} {d : α} {w : World} {a : Option Addr} {n c : Nat} {xs : List α} (I : Tab k enc d w (.slice a n c) xs) (h : 0 < xs.length) : ∃ g off, a = some ⟨g, off, none⟩ ∧ g < w.heap.size ∧ ∀ j, j < xs.length → ∀ i, i < k → w.cell? ⟨g, off + j * k + i, none⟩ = some (.int .i64 (enc (xs.getD j d) i)) := by
  obtain ⟨a1, c1, e1, _, hl, hm1⟩ := I.is
  injection e1 with e1 e2 e3
  subst e1 e3
  exact hm1 h

section
variable {H : Nat} {aR aO aP aT : Option Addr} {nR cR nO cO nP cP nT cT : Nat} {b0 b1 b2 b3 b4 : Bool}

set_option maxRecDepth 100000 in
set_option maxHeartbeats 2000000 in
theorem narrow_ah {w0 w : World} {ts : List T.T6} {B : Nat} {cs : Array Value} {o : Int × Int → Int} (I : Tis w0 (.slice aT nT cT) ts) (hu : Up w0 w) (hB : w0.heap.size ≤ B) (hts : T.Tok ts) (hl : ts.length ≤ 100000) (hO : T.OC cs o) (hb : T.Bnd (-1000000000000000) 1000000000 o) (kB : mblk w B = some (.cells cs 87 (0, 0))) :
    Calls Try.prog 83 #[WeV H (.slice aR nR cR) (.slice aO nO cO) (.slice aP nP cP) b0 b1 b2 b3 b4 (.slice aT nT cT), .pointer (some ⟨B, 0, none⟩), AhV] w fun e w' => e = .returned (.tuple #[]) ∧ (∃ cs', mblk w' B = some (.cells cs' 87 (0, 0)) ∧ T.OC cs' (T.rlxAll T.sHi o ts)) ∧ w.grownBy w' (some B) := by
  have hn := I.len
  have HI := Lib.hid I
  have HU := Lib.hid hu
  have HT := Lib.hid hts
  have HBN := Lib.hid (fun k (hk : k ≤ ts.length) => hb.all (F := 10000000) (by omega) (ts := ts.take k) fun t ht => (hts.hi) t (List.mem_of_mem_take ht))
  have HO := Lib.hid hO
  clear I hu hts hb hO
  subst hn
  have lB := blk_lt kB
  refine (callsIn_wide (n := 5)).1 ?_
  refine callsIn_of_wp Try.func83 rfl trivial ?_ rfl
  simp only [Try.ntmps83, List.size_toArray, List.length_cons, List.length_nil, Nat.reduceAdd, Nat.reduceSub, Array.replicate_succ, Array.replicate_zero, List.push_toArray, List.append_toArray, List.nil_append, List.cons_append]
  gi_wp2_with fail
  gi_loopw [12] (fun t wr => ∃ (k : Nat) (ck : Array Value), k ≤ ts.length ∧ t = .int .i64 k ∧ mblk wr B = some (.cells ck 87 (0, 0)) ∧ T.OC ck (T.rlxAll T.sHi o (ts.take k)) ∧ w.grownBy wr (some B) ∧ mblk wr w.heap.size = some (.cells (WeC H (.slice aR nR cR) (.slice aO nO cO) (.slice aP nP cP) b0 b1 b2 b3 b4 (.slice aT ts.length cT)) 82 (0, 0)) ∧ mblk wr (w.heap.size + 1) = some (.cells #[.func (.func 96) #[] #[], .int .i64 1] 104 (0, 0))) (fun t _ => ts.length - (intOf t).toNat)
  case atStart => exact ⟨0, cs, Nat.zero_le _, rfl, by rw [blk_past _ _ _ (by simp; omega), blk_past _ _ _ lB]; exact kB, HO.out, up_grown (((Up.refl w).alloc _).alloc _) _, blk_keep _ (blk_new _ _ _ rfl), blk_new _ _ _ (by simp)⟩
  case round =>
    clear kB HO
    obtain ⟨k, ck, hk, rfl, kB, hO, hG, kW, kS⟩ := hrel
    by_cases hlt : k < ts.length
    · have hUr : Up w0 wr := HU.out.grown hG fun r e => by have := Option.some.inj e; omega
      obtain ⟨g, off, rfl, gl, hc⟩ := (HI.out.up hUr).at (by omega)
      have x0 := hc k hlt 0 (by omega)
      have x1 := hc k hlt 1 (by omega)
      have x2 := hc k hlt 2 (by omega)
      have x3 := hc k hlt 3 (by omega)
      have x4 := hc k hlt 4 (by omega)
      have x5 := hc k hlt 5 (by omega)
      have hmem : ts.getD k (0, 0, 0, 0, 0, 0) ∈ ts := by rw [List.getD_eq_getElem?_getD, List.getElem?_eq_getElem hlt]; exact List.getElem_mem hlt
      obtain ⟨i1, i2, i3⟩ := HT.out _ hmem
      have tk := Lib.hid (T.rlxAll_take T.sHi o hlt)
      have bn := HBN.out k hk
      clear hc hmem
      generalize ts.getD k (0, 0, 0, 0, 0, 0) = z at *
      obtain ⟨c, h, c', h', l, u⟩ := z
      replace i1 : T.in6 (c, h) := i1
      replace i2 : T.in6 (c', h') := i2
      replace i3 : (-10000000 ≤ l ∧ l ≤ 10000000) ∧ (-10000000 ≤ u ∧ u ≤ 10000000) := i3
      simp only [T.encT, Nat.add_zero] at x0 x1 x2 x3 x4 x5
      generalize T.rlxAll T.sHi o (ts.take k) = ok at *
      have v1 := hO.at_ _ i1
      have v2 := hO.at_ _ i2
      have bn2 := bn _ i2
      have hlen : (List.take k ts).length ≤ 100000 := by rw [List.length_take]; omega
      obtain ⟨n1, hn1⟩ : ∃ x, ok (c, h) = x := ⟨_, rfl⟩
      obtain ⟨n2, hn2⟩ : ∃ x, ok (c', h') = x := ⟨_, rfl⟩
      rw [hn1] at v1
      rw [hn2] at v2 bn2
      have ew : IntKind.i64.wrap (n2 + u) = n2 + u := IntWalk.i64_in _ (by omega)
      obtain ⟨mv, hmv⟩ : ∃ x, min n1 (n2 + u) = x := ⟨_, rfl⟩
      have hO2 := Lib.hid (show T.OC (ck.setIfInBounds (T.pl (c, h)) (.int .i64 mv)) (T.rlxAll T.sHi o (ts.take (k + 1))) by
        have q := hO.put i1 mv
        rw [← tk.out]
        rw [← hmv, ← hn1, ← hn2] at q
        rw [← hmv, ← hn1, ← hn2]
        exact q)
      have hMn : ∀ (ts : Array TypeId) (t' : TypeId) (w : World), (Builtin.min_ ts t' #[.int .i64 n1, .int .i64 (n2 + u)]).run Try.prog w = .ok (.int .i64 mv) w := fun ts t' w => by
        have e : (if n2 + u < n1 then n2 + u else n1) = min n1 (n2 + u) := by split <;> omega
        rw [run_min_int2, e, hmv]
      have P1 := Lib.hid (fun w => oat_any (B := B) (w := w) i1)
      have P2 := Lib.hid (fun w => oat_any (B := B) (w := w) i2)
      obtain ⟨p1, hp1⟩ : ∃ x, T.pl (c, h) = x := ⟨_, rfl⟩
      obtain ⟨p2, hp2⟩ : ∃ x, T.pl (c', h') = x := ⟨_, rfl⟩
      rw [hp1] at v1 hO2 P1
      rw [hp2] at v2 P2
      have PR := Lib.hid (fun w => ahead1_any l u w)
      clear i1 i2 i3 hO tk bn bn2 hlen hn1 hn2 hmv hp1 hp2 HT HBN HI HU hUr
      have lS := blk_lt kS
      have lB2 := blk_lt kB
      gi_wp2_with fail
      obtain ⟨W1, hW1⟩ : ∃ x, wr.alloc (.cells (TiC c h c' h' l u) 125) = x := ⟨_, rfl⟩
      have V1 : Up wr W1 := by rw [← hW1]; exact (Up.refl wr).alloc _
      have kt : mblk W1 wr.heap.size = some (.cells (TiC c h c' h' l u) 125 (0, 0)) := by rw [← hW1]; exact blk_new _ _ _ rfl
      rw [hW1]
      clear hW1
      refine ⟨trivial, (callsIn_wide.2 (P1.out _)).mono ?_⟩
      rintro e y1 ⟨rfl, u1⟩
      have V := V1.trans u1
      replace kt := u1.blk kt
      replace kB := V.blk kB
      replace kS := V.blk kS
      replace kW := V.blk kW
      obtain ⟨q, hq⟩ : ∃ x, wr.heap.size = x := ⟨_, rfl⟩
      rw [hq] at kt ⊢
      clear hq x0 x1 x2 x3 x4 x5 lS lB2 P1 V1 u1
      have hmx : Try.prog.follows .mixedOrders = true := by kernel_rfl
      have v1' : ∀ w, Up y1 w → w.cell? ⟨B, p1, none⟩ = some (.int .i64 n1) := fun w u => (cellB (u.blk kB) p1).trans v1
      have v2' : ∀ w, Up y1 w → w.cell? ⟨B, p2, none⟩ = some (.int .i64 n2) := fun w u => (cellB (u.blk kB) p2).trans v2
      have HV := Lib.hid v1'
      have HV2 := Lib.hid v2'
      have HKT := Lib.hid (fun w (u : Up y1 w) => cellB (u.blk kt))
      have HKS := Lib.hid (fun w (u : Up y1 w) => cellB (u.blk kS))
      clear v1' v2' v1 v2
      gi_wp2_with fail
      refine wpIn_nrm ?_
      refine T.regionQ (fun w' => Up y1 w') 18 1 hmx (by kernel_rfl) (by kernel_rfl) ((Up.refl y1).drew) (fun hCl => ?_)
      refine T.qTake (i := 0) (d := (some 20)) (v := ?v1) rfl rfl (by kernel_rfl) (by decide) hCl (by kernel_rfl) (by kernel_rfl) (by kernel_rfl) (by rfl) ?hy1 (fun _ _ _ => trivial) (fun hCl' => ?_)
      case hy1 => (intro w hSw; refine T.qVal ?_ hSw; (have f1 := HV.out w hSw; have f2 := HV2.out w hSw; have f3 := HKT.out w hSw; have f4 := HKS.out w hSw); go_simp; try with_reducible rfl)
      simp only [Act.put, List.setIfInBounds_toArray, List.set_cons_zero, List.set_cons_succ]
      replace hCl := hCl'; clear hCl'
      refine T.qTake (i := 1) (d := (some 21)) (v := ?v2) rfl rfl (by kernel_rfl) (by decide) hCl (by kernel_rfl) (by kernel_rfl) (by kernel_rfl) (by rfl) ?hy2 (fun _ _ _ => trivial) (fun hCl' => ?_)
      case hy2 => (intro w hSw; refine T.qVal ?_ hSw; (have f1 := HV.out w hSw; have f2 := HV2.out w hSw; have f3 := HKT.out w hSw; have f4 := HKS.out w hSw); go_simp; try with_reducible rfl)
      simp only [Act.put, List.setIfInBounds_toArray, List.set_cons_zero, List.set_cons_succ]
      replace hCl := hCl'; clear hCl'
      refine T.qTake (i := 2) (d := (some 22)) (v := ?v3) rfl rfl (by kernel_rfl) (by decide) hCl (by kernel_rfl) (by kernel_rfl) (by kernel_rfl) (by rfl) ?hy3 (fun _ _ _ => trivial) (fun hCl' => ?_)
      case hy3 => (intro w hSw; refine T.qVal ?_ hSw; (have f1 := HV.out w hSw; have f2 := HV2.out w hSw; have f3 := HKT.out w hSw; have f4 := HKS.out w hSw); go_simp; try with_reducible rfl)
      simp only [Act.put, List.setIfInBounds_toArray, List.set_cons_zero, List.set_cons_succ]
      replace hCl := hCl'; clear hCl'
      refine T.qTake (i := 3) (d := (some 23)) (v := ?v4) rfl rfl (by kernel_rfl) (by decide) hCl (by kernel_rfl) (by kernel_rfl) (by kernel_rfl) (by rfl) ?hy4 (fun _ _ _ => trivial) (fun hCl' => ?_)
      case hy4 => (intro w hSw; refine T.qVal ?_ hSw; (have f1 := HV.out w hSw; have f2 := HV2.out w hSw; have f3 := HKT.out w hSw; have f4 := HKS.out w hSw); go_simp; try with_reducible rfl)
      simp only [Act.put, List.setIfInBounds_toArray, List.set_cons_zero, List.set_cons_succ]
      replace hCl := hCl'; clear hCl'
      refine T.qTake (i := 4) (d := (some 24)) (v := ?v5) rfl rfl (by kernel_rfl) (by decide) hCl (by kernel_rfl) (by kernel_rfl) (by kernel_rfl) (by rfl) ?hy5 (fun _ _ _ => trivial) (fun hCl' => ?_)
      case hy5 => (intro w hSw; refine T.qVal ?_ hSw; (have f1 := HV.out w hSw; have f2 := HV2.out w hSw; have f3 := HKT.out w hSw; have f4 := HKS.out w hSw); go_simp; try with_reducible rfl)
      simp only [Act.put, List.setIfInBounds_toArray, List.set_cons_zero, List.set_cons_succ]
      replace hCl := hCl'; clear hCl'
      refine T.qTake (i := 5) (d := (some 25)) (v := ?v6) rfl rfl (by kernel_rfl) (by decide) hCl (by kernel_rfl) (by kernel_rfl) (by kernel_rfl) (by rfl) ?hy6 (fun _ _ _ => trivial) (fun hCl' => ?_)
      case hy6 => (intro w hSw; refine T.qVal ?_ hSw; (have f1 := HV.out w hSw; have f2 := HV2.out w hSw; have f3 := HKT.out w hSw; have f4 := HKS.out w hSw); go_simp; try with_reducible rfl)
      simp only [Act.put, List.setIfInBounds_toArray, List.set_cons_zero, List.set_cons_succ]
      replace hCl := hCl'; clear hCl'
      refine T.qTake (i := 6) (d := (some 26)) (v := ?v7) rfl rfl (by kernel_rfl) (by decide) hCl (by kernel_rfl) (by kernel_rfl) (by kernel_rfl) (by rfl) ?hy7 (fun _ _ _ => trivial) (fun hCl' => ?_)
      case hy7 => (intro w hSw; refine T.qVal ?_ hSw; (have f1 := HV.out w hSw; have f2 := HV2.out w hSw; have f3 := HKT.out w hSw; have f4 := HKS.out w hSw); go_simp; try with_reducible rfl)
      simp only [Act.put, List.setIfInBounds_toArray, List.set_cons_zero, List.set_cons_succ]
      replace hCl := hCl'; clear hCl'
      refine T.qTake (i := 7) (d := (some 27)) (v := (.pointer (some ⟨B, p2, none⟩))) rfl rfl (by kernel_rfl) (by decide) hCl (by kernel_rfl) (by kernel_rfl) (by kernel_rfl) (by rfl) ?hy8 (fun _ _ _ => trivial) (fun hCl' => ?_)
      case hy8 => (intro w hSw; (have f1 := HV.out w hSw; have f2 := HV2.out w hSw; have f3 := HKT.out w hSw; have f4 := HKS.out w hSw); go_simp; (refine (callsIn_wide.2 (P2.out w)).mono ?_; rintro e w3 ⟨rfl, u3⟩; exact ⟨rfl, hSw.trans u3⟩))
      simp only [Act.put, List.setIfInBounds_toArray, List.set_cons_zero, List.set_cons_succ]
      replace hCl := hCl'; clear hCl'
      refine T.qTake (i := 8) (d := (some 28)) (v := ?v9) rfl rfl (by kernel_rfl) (by decide) hCl (by kernel_rfl) (by kernel_rfl) (by kernel_rfl) (by rfl) ?hy9 (fun _ _ _ => trivial) (fun hCl' => ?_)
      case hy9 => (intro w hSw; refine T.qVal ?_ hSw; (have f1 := HV.out w hSw; have f2 := HV2.out w hSw; have f3 := HKT.out w hSw; have f4 := HKS.out w hSw); go_simp; try with_reducible rfl)
      simp only [Act.put, List.setIfInBounds_toArray, List.set_cons_zero, List.set_cons_succ]
      replace hCl := hCl'; clear hCl'
      refine T.qTake (i := 9) (d := (some 29)) (v := ?v10) rfl rfl (by kernel_rfl) (by decide) hCl (by kernel_rfl) (by kernel_rfl) (by kernel_rfl) (by rfl) ?hy10 (fun _ _ _ => trivial) (fun hCl' => ?_)
      case hy10 => (intro w hSw; refine T.qVal ?_ hSw; (have f1 := HV.out w hSw; have f2 := HV2.out w hSw; have f3 := HKT.out w hSw; have f4 := HKS.out w hSw); go_simp; try with_reducible rfl)
      simp only [Act.put, List.setIfInBounds_toArray, List.set_cons_zero, List.set_cons_succ]
      replace hCl := hCl'; clear hCl'
      refine T.qTake (i := 10) (d := (some 30)) (v := ?v11) rfl rfl (by kernel_rfl) (by decide) hCl (by kernel_rfl) (by kernel_rfl) (by kernel_rfl) (by rfl) ?hy11 (fun _ _ _ => trivial) (fun hCl' => ?_)
      case hy11 => (intro w hSw; refine T.qVal ?_ hSw; (have f1 := HV.out w hSw; have f2 := HV2.out w hSw; have f3 := HKT.out w hSw; have f4 := HKS.out w hSw); go_simp; try with_reducible rfl)
      simp only [Act.put, List.setIfInBounds_toArray, List.set_cons_zero, List.set_cons_succ]
      replace hCl := hCl'; clear hCl'
      refine T.qTake (i := 11) (d := (some 31)) (v := ?v12) rfl rfl (by kernel_rfl) (by decide) hCl (by kernel_rfl) (by kernel_rfl) (by kernel_rfl) (by rfl) ?hy12 (fun _ _ _ => trivial) (fun hCl' => ?_)
      case hy12 => (intro w hSw; refine T.qVal ?_ hSw; (have f1 := HV.out w hSw; have f2 := HV2.out w hSw; have f3 := HKT.out w hSw; have f4 := HKS.out w hSw); go_simp; try with_reducible rfl)
      simp only [Act.put, List.setIfInBounds_toArray, List.set_cons_zero, List.set_cons_succ]
      replace hCl := hCl'; clear hCl'
      refine T.qTake (i := 12) (d := (some 32)) (v := ?v13) rfl rfl (by kernel_rfl) (by decide) hCl (by kernel_rfl) (by kernel_rfl) (by kernel_rfl) (by rfl) ?hy13 (fun _ _ _ => trivial) (fun hCl' => ?_)
      case hy13 => (intro w hSw; refine T.qVal ?_ hSw; (have f1 := HV.out w hSw; have f2 := HV2.out w hSw; have f3 := HKT.out w hSw; have f4 := HKS.out w hSw); go_simp; try with_reducible rfl)
      simp only [Act.put, List.setIfInBounds_toArray, List.set_cons_zero, List.set_cons_succ]
      replace hCl := hCl'; clear hCl'
      refine T.qTake (i := 13) (d := (some 33)) (v := ?v14) rfl rfl (by kernel_rfl) (by decide) hCl (by kernel_rfl) (by kernel_rfl) (by kernel_rfl) (by rfl) ?hy14 (fun _ _ _ => trivial) (fun hCl' => ?_)
      case hy14 => (intro w hSw; refine T.qVal ?_ hSw; (have f1 := HV.out w hSw; have f2 := HV2.out w hSw; have f3 := HKT.out w hSw; have f4 := HKS.out w hSw); go_simp; try with_reducible rfl)
      simp only [Act.put, List.setIfInBounds_toArray, List.set_cons_zero, List.set_cons_succ]
      replace hCl := hCl'; clear hCl'
      refine T.qTake (i := 14) (d := (some 34)) (v := (.int .i64 u)) rfl rfl (by kernel_rfl) (by decide) hCl (by kernel_rfl) (by kernel_rfl) (by kernel_rfl) (by rfl) ?hy15 (fun _ _ _ => trivial) (fun hCl' => ?_)
      case hy15 => (intro w hSw; (have f1 := HV.out w hSw; have f2 := HV2.out w hSw; have f3 := HKT.out w hSw; have f4 := HKS.out w hSw); go_simp; (refine (callsIn_wide.2 (PR.out w)).mono ?_; rintro e w3 ⟨rfl, u3⟩; exact ⟨rfl, hSw.trans u3⟩))
      simp only [Act.put, List.setIfInBounds_toArray, List.set_cons_zero, List.set_cons_succ]
      replace hCl := hCl'; clear hCl'
      refine T.qTake (i := 15) (d := (some 35)) (v := ?v16) rfl rfl (by kernel_rfl) (by decide) hCl (by kernel_rfl) (by kernel_rfl) (by kernel_rfl) (by rfl) ?hy16 (fun _ _ _ => trivial) (fun hCl' => ?_)
      case hy16 => (intro w hSw; refine T.qVal ?_ hSw; (have f1 := HV.out w hSw; have f2 := HV2.out w hSw; have f3 := HKT.out w hSw; have f4 := HKS.out w hSw); go_simp; try with_reducible rfl)
      simp only [Act.put, List.setIfInBounds_toArray, List.set_cons_zero, List.set_cons_succ]
      replace hCl := hCl'; clear hCl'
      refine T.qTake (i := 16) (d := (some 36)) (v := ?v17) rfl rfl (by kernel_rfl) (by decide) hCl (by kernel_rfl) (by kernel_rfl) (by kernel_rfl) (by rfl) ?hy17 (fun _ _ _ => trivial) (fun hCl' => ?_)
      case hy17 => (intro w hSw; refine T.qVal ?_ hSw; (have f1 := HV.out w hSw; have f2 := HV2.out w hSw; have f3 := HKT.out w hSw; have f4 := HKS.out w hSw); go_simp; try with_reducible rfl)
      simp only [Act.put, List.setIfInBounds_toArray, List.set_cons_zero, List.set_cons_succ]
      replace hCl := hCl'; clear hCl'
      refine T.qTake (i := 17) (d := (some 37)) (v := ?v18) rfl rfl (by kernel_rfl) (by decide) hCl (by kernel_rfl) (by kernel_rfl) (by kernel_rfl) (by rfl) ?hy18 (fun _ _ _ => trivial) (fun hCl' => ?_)
      case hy18 => (intro w hSw; refine T.qVal ?_ hSw; (have f1 := HV.out w hSw; have f2 := HV2.out w hSw; have f3 := HKT.out w hSw; have f4 := HKS.out w hSw); go_simp; try with_reducible rfl)
      simp only [Act.put, List.setIfInBounds_toArray, List.set_cons_zero, List.set_cons_succ]
      replace hCl := hCl'; clear hCl'
      refine T.tail_intro (by kernel_rfl) (fun y2 hy2 => ?_)
      have kB3 := hy2.blk kB
      have f1 := HV.out y2 hy2
      have f2 := frozB kB3
      have VV := V.trans hy2
      refine lastG (i := 18) (by kernel_rfl) rfl (by rfl) (by decide) (fun K hK => ?_)
      go_simp
      refine hK.out _ _ ?_
      clear hK K
      refine doneG (by kernel_rfl) ?_ _
      refine S.nrm_intro ?_
      obtain ⟨y3, hy3⟩ : ∃ x, y2.setCell ⟨B, p1, none⟩ (.int .i64 mv) = x := ⟨_, rfl⟩
      have kB4 : mblk y3 B = some (.cells (ck.setIfInBounds p1 (.int .i64 mv)) 87 (0, 0)) := by rw [← hy3]; exact blk_put kB3 p1 _
      have g3 : y2.grownBy y3 (some B) := by
        rw [← hy3]
        exact ⟨rfl, rfl, rfl, by simp [World.setCell], fun b _ hb => Below.heap_setCell _ _ _ _ (fun e => hb (by rw [e]))⟩
      have hG3 := grown_trans (grown_trans hG (up_grown VV _)) g3
      have kS4 := grown_blk g3 (hy2.blk kS) (fun e => by have := Option.some.inj e; omega)
      have kW4 := grown_blk g3 (hy2.blk kW) (fun e => by have := Option.some.inj e; omega)
      have hO4 := hO2.out
      rw [hy3]
      clear hy3 kB kS kW kt hG hy2 VV V kB3 f1 f2 HV HV2 HKT HKS g3 P2 PR hMn
      gi_wp2
      go_roundw
      case rel => exact ⟨k + 1, _, by omega, by go_num, kB4, hO4, hG3, kW4, kS4⟩
      case measure => simp [intOf]; omega
    · obtain rfl : k = ts.length := by omega
      rw [List.take_length] at hO
      gi_wp2
      go_end0
      exact ⟨rfl, ⟨_, kB, hO⟩, hG⟩

set_option maxRecDepth 100000 in
set_option maxHeartbeats 2000000 in
theorem narrow_be {w0 w : World} {ts : List T.T6} {B : Nat} {cs : Array Value} {o : Int × Int → Int} (I : Tis w0 (.slice aT nT cT) ts) (hu : Up w0 w) (hB : w0.heap.size ≤ B) (hts : T.Tok ts) (hl : ts.length ≤ 100000) (hO : T.OC cs o) (hb : T.Bnd (-1000000000000000) 1000000000 o) (kB : mblk w B = some (.cells cs 87 (0, 0))) :
    Calls Try.prog 83 #[WeV H (.slice aR nR cR) (.slice aO nO cO) (.slice aP nP cP) b0 b1 b2 b3 b4 (.slice aT nT cT), .pointer (some ⟨B, 0, none⟩), BeV] w fun e w' => e = .returned (.tuple #[]) ∧ (∃ cs', mblk w' B = some (.cells cs' 87 (0, 0)) ∧ T.OC cs' (T.rlxAll T.sLo o ts)) ∧ w.grownBy w' (some B) := by
  have hn := I.len
  have HI := Lib.hid I
  have HU := Lib.hid hu
  have HT := Lib.hid hts
  have HBN := Lib.hid (fun k (hk : k ≤ ts.length) => hb.all (F := 10000000) (by omega) (ts := ts.take k) fun t ht => (hts.lo) t (List.mem_of_mem_take ht))
  have HO := Lib.hid hO
  clear I hu hts hb hO
  subst hn
  have lB := blk_lt kB
  refine (callsIn_wide (n := 5)).1 ?_
  refine callsIn_of_wp Try.func83 rfl trivial ?_ rfl
  simp only [Try.ntmps83, List.size_toArray, List.length_cons, List.length_nil, Nat.reduceAdd, Nat.reduceSub, Array.replicate_succ, Array.replicate_zero, List.push_toArray, List.append_toArray, List.nil_append, List.cons_append]
  gi_wp2_with fail
  gi_loopw [12] (fun t wr => ∃ (k : Nat) (ck : Array Value), k ≤ ts.length ∧ t = .int .i64 k ∧ mblk wr B = some (.cells ck 87 (0, 0)) ∧ T.OC ck (T.rlxAll T.sLo o (ts.take k)) ∧ w.grownBy wr (some B) ∧ mblk wr w.heap.size = some (.cells (WeC H (.slice aR nR cR) (.slice aO nO cO) (.slice aP nP cP) b0 b1 b2 b3 b4 (.slice aT ts.length cT)) 82 (0, 0)) ∧ mblk wr (w.heap.size + 1) = some (.cells #[.func (.func 97) #[] #[], .int .i64 (-1)] 104 (0, 0))) (fun t _ => ts.length - (intOf t).toNat)
  case atStart => exact ⟨0, cs, Nat.zero_le _, rfl, by rw [blk_past _ _ _ (by simp; omega), blk_past _ _ _ lB]; exact kB, HO.out, up_grown (((Up.refl w).alloc _).alloc _) _, blk_keep _ (blk_new _ _ _ rfl), blk_new _ _ _ (by simp)⟩
  case round =>
    clear kB HO
    obtain ⟨k, ck, hk, rfl, kB, hO, hG, kW, kS⟩ := hrel
    by_cases hlt : k < ts.length
    · have hUr : Up w0 wr := HU.out.grown hG fun r e => by have := Option.some.inj e; omega
      obtain ⟨g, off, rfl, gl, hc⟩ := (HI.out.up hUr).at (by omega)
      have x0 := hc k hlt 0 (by omega)
      have x1 := hc k hlt 1 (by omega)
      have x2 := hc k hlt 2 (by omega)
      have x3 := hc k hlt 3 (by omega)
      have x4 := hc k hlt 4 (by omega)
      have x5 := hc k hlt 5 (by omega)
      have hmem : ts.getD k (0, 0, 0, 0, 0, 0) ∈ ts := by rw [List.getD_eq_getElem?_getD, List.getElem?_eq_getElem hlt]; exact List.getElem_mem hlt
      obtain ⟨i1, i2, i3⟩ := HT.out _ hmem
      have tk := Lib.hid (T.rlxAll_take T.sLo o hlt)
      have bn := HBN.out k hk
      clear hc hmem
      generalize ts.getD k (0, 0, 0, 0, 0, 0) = z at *
      obtain ⟨c, h, c', h', l, u⟩ := z
      replace i1 : T.in6 (c, h) := i1
      replace i2 : T.in6 (c', h') := i2
      replace i3 : (-10000000 ≤ l ∧ l ≤ 10000000) ∧ (-10000000 ≤ u ∧ u ≤ 10000000) := i3
      simp only [T.encT, Nat.add_zero] at x0 x1 x2 x3 x4 x5
      generalize T.rlxAll T.sLo o (ts.take k) = ok at *
      have v1 := hO.at_ _ i1
      have v2 := hO.at_ _ i2
      have bn2 := bn _ i2
      have hlen : (List.take k ts).length ≤ 100000 := by rw [List.length_take]; omega
      obtain ⟨n1, hn1⟩ : ∃ x, ok (c, h) = x := ⟨_, rfl⟩
      obtain ⟨n2, hn2⟩ : ∃ x, ok (c', h') = x := ⟨_, rfl⟩
      rw [hn1] at v1
      rw [hn2] at v2 bn2
      obtain ⟨nl, hnl⟩ : ∃ x, -l = x := ⟨_, rfl⟩
      have ew : IntKind.i64.wrap (n2 + nl) = n2 + nl := IntWalk.i64_in _ (by omega)
      obtain ⟨mv, hmv⟩ : ∃ x, min n1 (n2 + nl) = x := ⟨_, rfl⟩
      have hO2 := Lib.hid (show T.OC (ck.setIfInBounds (T.pl (c, h)) (.int .i64 mv)) (T.rlxAll T.sLo o (ts.take (k + 1))) by
        have q := hO.put i1 mv
        rw [← tk.out]
        rw [← hmv, ← hn1, ← hn2, ← hnl] at q
        rw [← hmv, ← hn1, ← hn2, ← hnl]
        exact q)
      have hMn : ∀ (ts : Array TypeId) (t' : TypeId) (w : World), (Builtin.min_ ts t' #[.int .i64 n1, .int .i64 (n2 + nl)]).run Try.prog w = .ok (.int .i64 mv) w := fun ts t' w => by
        have e : (if n2 + nl < n1 then n2 + nl else n1) = min n1 (n2 + nl) := by split <;> omega
        rw [run_min_int2, e, hmv]
      have P1 := Lib.hid (fun w => oat_any (B := B) (w := w) i1)
      have P2 := Lib.hid (fun w => oat_any (B := B) (w := w) i2)
      obtain ⟨p1, hp1⟩ : ∃ x, T.pl (c, h) = x := ⟨_, rfl⟩
      obtain ⟨p2, hp2⟩ : ∃ x, T.pl (c', h') = x := ⟨_, rfl⟩
      rw [hp1] at v1 hO2 P1
      rw [hp2] at v2 P2
      have PR := Lib.hid (fun w => behind1_any l u w (by omega) (by omega))
      rw [hnl] at PR
      clear i1 i2 i3 hO tk bn bn2 hlen hn1 hn2 hmv hp1 hp2 HT HBN HI HU hUr
      have lS := blk_lt kS
      have lB2 := blk_lt kB
      gi_wp2_with fail
      obtain ⟨W1, hW1⟩ : ∃ x, wr.alloc (.cells (TiC c h c' h' l u) 125) = x := ⟨_, rfl⟩
      have V1 : Up wr W1 := by rw [← hW1]; exact (Up.refl wr).alloc _
      have kt : mblk W1 wr.heap.size = some (.cells (TiC c h c' h' l u) 125 (0, 0)) := by rw [← hW1]; exact blk_new _ _ _ rfl
      rw [hW1]
      clear hW1
      refine ⟨trivial, (callsIn_wide.2 (P1.out _)).mono ?_⟩
      rintro e y1 ⟨rfl, u1⟩
      have V := V1.trans u1
      replace kt := u1.blk kt
      replace kB := V.blk kB
      replace kS := V.blk kS
      replace kW := V.blk kW
      obtain ⟨q, hq⟩ : ∃ x, wr.heap.size = x := ⟨_, rfl⟩
      rw [hq] at kt ⊢
      clear hq x0 x1 x2 x3 x4 x5 lS lB2 P1 V1 u1
      have hmx : Try.prog.follows .mixedOrders = true := by kernel_rfl
      have v1' : ∀ w, Up y1 w → w.cell? ⟨B, p1, none⟩ = some (.int .i64 n1) := fun w u => (cellB (u.blk kB) p1).trans v1
      have v2' : ∀ w, Up y1 w → w.cell? ⟨B, p2, none⟩ = some (.int .i64 n2) := fun w u => (cellB (u.blk kB) p2).trans v2
      have HV := Lib.hid v1'
      have HV2 := Lib.hid v2'
      have HKT := Lib.hid (fun w (u : Up y1 w) => cellB (u.blk kt))
      have HKS := Lib.hid (fun w (u : Up y1 w) => cellB (u.blk kS))
      clear v1' v2' v1 v2
      gi_wp2_with fail
      refine wpIn_nrm ?_
      refine T.regionQ (fun w' => Up y1 w') 18 1 hmx (by kernel_rfl) (by kernel_rfl) ((Up.refl y1).drew) (fun hCl => ?_)
      refine T.qTake (i := 0) (d := (some 20)) (v := ?v19) rfl rfl (by kernel_rfl) (by decide) hCl (by kernel_rfl) (by kernel_rfl) (by kernel_rfl) (by rfl) ?hy19 (fun _ _ _ => trivial) (fun hCl' => ?_)
      case hy19 => (intro w hSw; refine T.qVal ?_ hSw; (have f1 := HV.out w hSw; have f2 := HV2.out w hSw; have f3 := HKT.out w hSw; have f4 := HKS.out w hSw); go_simp; try with_reducible rfl)
      simp only [Act.put, List.setIfInBounds_toArray, List.set_cons_zero, List.set_cons_succ]
      replace hCl := hCl'; clear hCl'
      refine T.qTake (i := 1) (d := (some 21)) (v := ?v20) rfl rfl (by kernel_rfl) (by decide) hCl (by kernel_rfl) (by kernel_rfl) (by kernel_rfl) (by rfl) ?hy20 (fun _ _ _ => trivial) (fun hCl' => ?_)
      case hy20 => (intro w hSw; refine T.qVal ?_ hSw; (have f1 := HV.out w hSw; have f2 := HV2.out w hSw; have f3 := HKT.out w hSw; have f4 := HKS.out w hSw); go_simp; try with_reducible rfl)
      simp only [Act.put, List.setIfInBounds_toArray, List.set_cons_zero, List.set_cons_succ]
      replace hCl := hCl'; clear hCl'
      refine T.qTake (i := 2) (d := (some 22)) (v := ?v21) rfl rfl (by kernel_rfl) (by decide) hCl (by kernel_rfl) (by kernel_rfl) (by kernel_rfl) (by rfl) ?hy21 (fun _ _ _ => trivial) (fun hCl' => ?_)
      case hy21 => (intro w hSw; refine T.qVal ?_ hSw; (have f1 := HV.out w hSw; have f2 := HV2.out w hSw; have f3 := HKT.out w hSw; have f4 := HKS.out w hSw); go_simp; try with_reducible rfl)
      simp only [Act.put, List.setIfInBounds_toArray, List.set_cons_zero, List.set_cons_succ]
      replace hCl := hCl'; clear hCl'
      refine T.qTake (i := 3) (d := (some 23)) (v := ?v22) rfl rfl (by kernel_rfl) (by decide) hCl (by kernel_rfl) (by kernel_rfl) (by kernel_rfl) (by rfl) ?hy22 (fun _ _ _ => trivial) (fun hCl' => ?_)
      case hy22 => (intro w hSw; refine T.qVal ?_ hSw; (have f1 := HV.out w hSw; have f2 := HV2.out w hSw; have f3 := HKT.out w hSw; have f4 := HKS.out w hSw); go_simp; try with_reducible rfl)
      simp only [Act.put, List.setIfInBounds_toArray, List.set_cons_zero, List.set_cons_succ]
      replace hCl := hCl'; clear hCl'
      refine T.qTake (i := 4) (d := (some 24)) (v := ?v23) rfl rfl (by kernel_rfl) (by decide) hCl (by kernel_rfl) (by kernel_rfl) (by kernel_rfl) (by rfl) ?hy23 (fun _ _ _ => trivial) (fun hCl' => ?_)
      case hy23 => (intro w hSw; refine T.qVal ?_ hSw; (have f1 := HV.out w hSw; have f2 := HV2.out w hSw; have f3 := HKT.out w hSw; have f4 := HKS.out w hSw); go_simp; try with_reducible rfl)
      simp only [Act.put, List.setIfInBounds_toArray, List.set_cons_zero, List.set_cons_succ]
      replace hCl := hCl'; clear hCl'
      refine T.qTake (i := 5) (d := (some 25)) (v := ?v24) rfl rfl (by kernel_rfl) (by decide) hCl (by kernel_rfl) (by kernel_rfl) (by kernel_rfl) (by rfl) ?hy24 (fun _ _ _ => trivial) (fun hCl' => ?_)
      case hy24 => (intro w hSw; refine T.qVal ?_ hSw; (have f1 := HV.out w hSw; have f2 := HV2.out w hSw; have f3 := HKT.out w hSw; have f4 := HKS.out w hSw); go_simp; try with_reducible rfl)
      simp only [Act.put, List.setIfInBounds_toArray, List.set_cons_zero, List.set_cons_succ]
      replace hCl := hCl'; clear hCl'
      refine T.qTake (i := 6) (d := (some 26)) (v := ?v25) rfl rfl (by kernel_rfl) (by decide) hCl (by kernel_rfl) (by kernel_rfl) (by kernel_rfl) (by rfl) ?hy25 (fun _ _ _ => trivial) (fun hCl' => ?_)
      case hy25 => (intro w hSw; refine T.qVal ?_ hSw; (have f1 := HV.out w hSw; have f2 := HV2.out w hSw; have f3 := HKT.out w hSw; have f4 := HKS.out w hSw); go_simp; try with_reducible rfl)
      simp only [Act.put, List.setIfInBounds_toArray, List.set_cons_zero, List.set_cons_succ]
      replace hCl := hCl'; clear hCl'
      refine T.qTake (i := 7) (d := (some 27)) (v := (.pointer (some ⟨B, p2, none⟩))) rfl rfl (by kernel_rfl) (by decide) hCl (by kernel_rfl) (by kernel_rfl) (by kernel_rfl) (by rfl) ?hy26 (fun _ _ _ => trivial) (fun hCl' => ?_)
      case hy26 => (intro w hSw; (have f1 := HV.out w hSw; have f2 := HV2.out w hSw; have f3 := HKT.out w hSw; have f4 := HKS.out w hSw); go_simp; (refine (callsIn_wide.2 (P2.out w)).mono ?_; rintro e w3 ⟨rfl, u3⟩; exact ⟨rfl, hSw.trans u3⟩))
      simp only [Act.put, List.setIfInBounds_toArray, List.set_cons_zero, List.set_cons_succ]
      replace hCl := hCl'; clear hCl'
      refine T.qTake (i := 8) (d := (some 28)) (v := ?v27) rfl rfl (by kernel_rfl) (by decide) hCl (by kernel_rfl) (by kernel_rfl) (by kernel_rfl) (by rfl) ?hy27 (fun _ _ _ => trivial) (fun hCl' => ?_)
      case hy27 => (intro w hSw; refine T.qVal ?_ hSw; (have f1 := HV.out w hSw; have f2 := HV2.out w hSw; have f3 := HKT.out w hSw; have f4 := HKS.out w hSw); go_simp; try with_reducible rfl)
      simp only [Act.put, List.setIfInBounds_toArray, List.set_cons_zero, List.set_cons_succ]
      replace hCl := hCl'; clear hCl'
      refine T.qTake (i := 9) (d := (some 29)) (v := ?v28) rfl rfl (by kernel_rfl) (by decide) hCl (by kernel_rfl) (by kernel_rfl) (by kernel_rfl) (by rfl) ?hy28 (fun _ _ _ => trivial) (fun hCl' => ?_)
      case hy28 => (intro w hSw; refine T.qVal ?_ hSw; (have f1 := HV.out w hSw; have f2 := HV2.out w hSw; have f3 := HKT.out w hSw; have f4 := HKS.out w hSw); go_simp; try with_reducible rfl)
      simp only [Act.put, List.setIfInBounds_toArray, List.set_cons_zero, List.set_cons_succ]
      replace hCl := hCl'; clear hCl'
      refine T.qTake (i := 10) (d := (some 30)) (v := ?v29) rfl rfl (by kernel_rfl) (by decide) hCl (by kernel_rfl) (by kernel_rfl) (by kernel_rfl) (by rfl) ?hy29 (fun _ _ _ => trivial) (fun hCl' => ?_)
      case hy29 => (intro w hSw; refine T.qVal ?_ hSw; (have f1 := HV.out w hSw; have f2 := HV2.out w hSw; have f3 := HKT.out w hSw; have f4 := HKS.out w hSw); go_simp; try with_reducible rfl)
      simp only [Act.put, List.setIfInBounds_toArray, List.set_cons_zero, List.set_cons_succ]
      replace hCl := hCl'; clear hCl'
      refine T.qTake (i := 11) (d := (some 31)) (v := ?v30) rfl rfl (by kernel_rfl) (by decide) hCl (by kernel_rfl) (by kernel_rfl) (by kernel_rfl) (by rfl) ?hy30 (fun _ _ _ => trivial) (fun hCl' => ?_)
      case hy30 => (intro w hSw; refine T.qVal ?_ hSw; (have f1 := HV.out w hSw; have f2 := HV2.out w hSw; have f3 := HKT.out w hSw; have f4 := HKS.out w hSw); go_simp; try with_reducible rfl)
      simp only [Act.put, List.setIfInBounds_toArray, List.set_cons_zero, List.set_cons_succ]
      replace hCl := hCl'; clear hCl'
      refine T.qTake (i := 12) (d := (some 32)) (v := ?v31) rfl rfl (by kernel_rfl) (by decide) hCl (by kernel_rfl) (by kernel_rfl) (by kernel_rfl) (by rfl) ?hy31 (fun _ _ _ => trivial) (fun hCl' => ?_)
      case hy31 => (intro w hSw; refine T.qVal ?_ hSw; (have f1 := HV.out w hSw; have f2 := HV2.out w hSw; have f3 := HKT.out w hSw; have f4 := HKS.out w hSw); go_simp; try with_reducible rfl)
      simp only [Act.put, List.setIfInBounds_toArray, List.set_cons_zero, List.set_cons_succ]
      replace hCl := hCl'; clear hCl'
      refine T.qTake (i := 13) (d := (some 33)) (v := ?v32) rfl rfl (by kernel_rfl) (by decide) hCl (by kernel_rfl) (by kernel_rfl) (by kernel_rfl) (by rfl) ?hy32 (fun _ _ _ => trivial) (fun hCl' => ?_)
      case hy32 => (intro w hSw; refine T.qVal ?_ hSw; (have f1 := HV.out w hSw; have f2 := HV2.out w hSw; have f3 := HKT.out w hSw; have f4 := HKS.out w hSw); go_simp; try with_reducible rfl)
      simp only [Act.put, List.setIfInBounds_toArray, List.set_cons_zero, List.set_cons_succ]
      replace hCl := hCl'; clear hCl'
      refine T.qTake (i := 14) (d := (some 34)) (v := (.int .i64 nl)) rfl rfl (by kernel_rfl) (by decide) hCl (by kernel_rfl) (by kernel_rfl) (by kernel_rfl) (by rfl) ?hy33 (fun _ _ _ => trivial) (fun hCl' => ?_)
      case hy33 => (intro w hSw; (have f1 := HV.out w hSw; have f2 := HV2.out w hSw; have f3 := HKT.out w hSw; have f4 := HKS.out w hSw); go_simp; (refine (callsIn_wide.2 (PR.out w)).mono ?_; rintro e w3 ⟨rfl, u3⟩; exact ⟨rfl, hSw.trans u3⟩))
      simp only [Act.put, List.setIfInBounds_toArray, List.set_cons_zero, List.set_cons_succ]
      replace hCl := hCl'; clear hCl'
      refine T.qTake (i := 15) (d := (some 35)) (v := ?v34) rfl rfl (by kernel_rfl) (by decide) hCl (by kernel_rfl) (by kernel_rfl) (by kernel_rfl) (by rfl) ?hy34 (fun _ _ _ => trivial) (fun hCl' => ?_)
      case hy34 => (intro w hSw; refine T.qVal ?_ hSw; (have f1 := HV.out w hSw; have f2 := HV2.out w hSw; have f3 := HKT.out w hSw; have f4 := HKS.out w hSw); go_simp; try with_reducible rfl)
      simp only [Act.put, List.setIfInBounds_toArray, List.set_cons_zero, List.set_cons_succ]
      replace hCl := hCl'; clear hCl'
      refine T.qTake (i := 16) (d := (some 36)) (v := ?v35) rfl rfl (by kernel_rfl) (by decide) hCl (by kernel_rfl) (by kernel_rfl) (by kernel_rfl) (by rfl) ?hy35 (fun _ _ _ => trivial) (fun hCl' => ?_)
      case hy35 => (intro w hSw; refine T.qVal ?_ hSw; (have f1 := HV.out w hSw; have f2 := HV2.out w hSw; have f3 := HKT.out w hSw; have f4 := HKS.out w hSw); go_simp; try with_reducible rfl)
      simp only [Act.put, List.setIfInBounds_toArray, List.set_cons_zero, List.set_cons_succ]
      replace hCl := hCl'; clear hCl'
      refine T.qTake (i := 17) (d := (some 37)) (v := ?v36) rfl rfl (by kernel_rfl) (by decide) hCl (by kernel_rfl) (by kernel_rfl) (by kernel_rfl) (by rfl) ?hy36 (fun _ _ _ => trivial) (fun hCl' => ?_)
      case hy36 => (intro w hSw; refine T.qVal ?_ hSw; (have f1 := HV.out w hSw; have f2 := HV2.out w hSw; have f3 := HKT.out w hSw; have f4 := HKS.out w hSw); go_simp; try with_reducible rfl)
      simp only [Act.put, List.setIfInBounds_toArray, List.set_cons_zero, List.set_cons_succ]
      replace hCl := hCl'; clear hCl'
      refine T.tail_intro (by kernel_rfl) (fun y2 hy2 => ?_)
      have kB3 := hy2.blk kB
      have f1 := HV.out y2 hy2
      have f2 := frozB kB3
      have VV := V.trans hy2
      refine lastG (i := 18) (by kernel_rfl) rfl (by rfl) (by decide) (fun K hK => ?_)
      go_simp
      refine hK.out _ _ ?_
      clear hK K
      refine doneG (by kernel_rfl) ?_ _
      refine S.nrm_intro ?_
      obtain ⟨y3, hy3⟩ : ∃ x, y2.setCell ⟨B, p1, none⟩ (.int .i64 mv) = x := ⟨_, rfl⟩
      have kB4 : mblk y3 B = some (.cells (ck.setIfInBounds p1 (.int .i64 mv)) 87 (0, 0)) := by rw [← hy3]; exact blk_put kB3 p1 _
      have g3 : y2.grownBy y3 (some B) := by
        rw [← hy3]
        exact ⟨rfl, rfl, rfl, by simp [World.setCell], fun b _ hb => Below.heap_setCell _ _ _ _ (fun e => hb (by rw [e]))⟩
      have hG3 := grown_trans (grown_trans hG (up_grown VV _)) g3
      have kS4 := grown_blk g3 (hy2.blk kS) (fun e => by have := Option.some.inj e; omega)
      have kW4 := grown_blk g3 (hy2.blk kW) (fun e => by have := Option.some.inj e; omega)
      have hO4 := hO2.out
      rw [hy3]
      clear hy3 kB kS kW kt hG hy2 VV V kB3 f1 f2 HV HV2 HKT HKS g3 P2 PR hMn
      gi_wp2
      go_roundw
      case rel => exact ⟨k + 1, _, by omega, by go_num, kB4, hO4, hG3, kW4, kS4⟩
      case measure => simp [intOf]; omega
    · obtain rfl : k = ts.length := by omega
      rw [List.take_length] at hO
      gi_wp2
      go_end0
      exact ⟨rfl, ⟨_, kB, hO⟩, hG⟩
end

end Go.Proofs.Ytcmdaiklkdeanaa
