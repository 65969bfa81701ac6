import Derived.Test.YtlpkheoljbdajaaCan
/- The contracts of fewest and its closure. -/
namespace Go.Proofs.Ytlpkheoljbdajaa
open Go.RowKit Go.Shelf
attribute [local go_sem] Oper.semAt_some

theorem cell_plooks {w : World} {b : Nat} {cs : Array Value} (h : mblk w b = some (.cells cs 113 (0, 0))) (j : Nat) : w.cell? ⟨b, j, none⟩ = cs[j]? := cellB h j
theorem cell_choose {w : World} {b : Nat} {cs : Array Value} (h : mblk w b = some (.cells cs 124 (0, 0))) (j : Nat) : w.cell? ⟨b, j, none⟩ = cs[j]? := cellB h j
attribute [go_sem] cell_plooks cell_choose
/-- a set of looks, in memory -/
abbrev T.bc (s : Nat → Bool) : Array Value := LoC s
def T.st (s : Nat → Bool) (c : Nat) (v : Bool) : Nat → Bool := fun k => if k = c then v else s k
theorem T.bc_st (s : Nat → Bool) {c : Nat} (h : c < 10) (v : Bool) : (T.bc s).setIfInBounds c (.bool v) = T.bc (T.st s c v) := by
  match c, h with
  | 0, _ => rfl
  | 1, _ => rfl
  | 2, _ => rfl
  | 3, _ => rfl
  | 4, _ => rfl
  | 5, _ => rfl
  | 6, _ => rfl
  | 7, _ => rfl
  | 8, _ => rfl
  | 9, _ => rfl
theorem T.st_back {s : Nat → Bool} {c : Nat} (h : s c = false) : T.st (T.st s c true) c false = s := by
  funext k
  unfold T.st
  by_cases e : k = c
  · subst e; simp [h]
  · simp [e]
/-- the first set that will do, of so many looks more, from a look on -/
def T.ch (P : (Nat → Bool) → Bool) (many : Nat) : Nat → Nat → (Nat → Bool) → Option (Nat → Bool)
  | 0, _, s => if P s then some s else none
  | l + 1, fr, s => (List.range' fr (many - fr)).findSome? fun c => T.ch P many l (c + 1) (T.st s c true)
theorem T.find_step {α : Type} (f : Nat → Option α) {fr many : Nat} (h : fr < many) : (List.range' fr (many - fr)).findSome? f = (match f fr with | some x => some x | none => (List.range' (fr + 1) (many - (fr + 1))).findSome? f) := by
  rw [show many - fr = (many - (fr + 1)) + 1 by omega, List.range'_succ, List.findSome?_cons]
  cases f fr <;> rfl
theorem T.find_end {α : Type} (f : Nat → Option α) {fr many : Nat} (h : many ≤ fr) : (List.range' fr (many - fr)).findSome? f = none := by
  rw [show many - fr = 0 by omega]
  rfl
section
variable {M bl bh rl rh : Int} {aP aQ aL : Option Addr} {nP cP nQ cQ nL cL : Nat} {o : Nat → Bool} {P : (Nat → Bool) → Bool} {w0 : World} {many bd bs bm bch : Nat}
set_option maxRecDepth 100000 in
set_option maxHeartbeats 4000000 in
theorem fewest1_any (hm : many ≤ 10) (hP : ∀ w', Up w0 w' → ∀ s : Nat → Bool, Calls Try.prog 74 #[BkV M bl bh rl rh (.slice aP nP cP) (.slice aQ nQ cQ) (.slice aL nL cL) o, LoV s] w' fun e w'' => e = .returned (.bool (P s)) ∧ Up w' w'') (hbs : w0.heap.size ≤ bs) (hne : bd ≠ bs ∧ bm ≠ bs ∧ bch ≠ bs) :
    ∀ (left fr : Nat) (s : Nat → Bool) (w : World), left ≤ 10 → fr ≤ 10 → (∀ c, fr ≤ c → s c = false) → Up w0 w → mblk w bs = some (.cells (T.bc s) 79 (0, 0)) → mblk w bd = some (.cells #[.func (.func 74) #[BkV M bl bh rl rh (.slice aP nP cP) (.slice aQ nQ cQ) (.slice aL nL cL) o] #[]] 113 (0, 0)) → mblk w bm = some (.cells #[.int .i64 many] 3 (0, 0)) → mblk w bch = some (.cells #[.func (.func 97) #[] #[.pointer (some ⟨bd, 0, none⟩), .pointer (some ⟨bs, 0, none⟩), .pointer (some ⟨bm, 0, none⟩), .pointer (some ⟨bch, 0, none⟩)]] 124 (0, 0)) →
    Calls Try.prog 97 #[.int .i64 fr, .int .i64 left, .pointer (some ⟨bd, 0, none⟩), .pointer (some ⟨bs, 0, none⟩), .pointer (some ⟨bm, 0, none⟩), .pointer (some ⟨bch, 0, none⟩)] w fun e w' =>
      (∃ (r : Bool) (s' : Nat → Bool), e = .returned (.bool r) ∧ ((r = true ∧ T.ch P many left fr s = some s') ∨ (r = false ∧ T.ch P many left fr s = none ∧ s' = s)) ∧ mblk w' bs = some (.cells (T.bc s') 79 (0, 0))) ∧ w.grownBy w' (some bs) := by
  intro left
  induction left with
  | zero =>
    intro fr s w hl hf hs U kS kD kM kC
    have HP := Lib.hid (fun w' (u : Up w0 w') => hP w' u s)
    have hch : T.ch P many 0 fr s = if P s then some s else none := rfl
    obtain ⟨x0, hx0⟩ : ∃ x, s 0 = x := ⟨_, rfl⟩
    obtain ⟨x1, hx1⟩ : ∃ x, s 1 = x := ⟨_, rfl⟩
    obtain ⟨x2, hx2⟩ : ∃ x, s 2 = x := ⟨_, rfl⟩
    obtain ⟨x3, hx3⟩ : ∃ x, s 3 = x := ⟨_, rfl⟩
    obtain ⟨x4, hx4⟩ : ∃ x, s 4 = x := ⟨_, rfl⟩
    obtain ⟨x5, hx5⟩ : ∃ x, s 5 = x := ⟨_, rfl⟩
    obtain ⟨x6, hx6⟩ : ∃ x, s 6 = x := ⟨_, rfl⟩
    obtain ⟨x7, hx7⟩ : ∃ x, s 7 = x := ⟨_, rfl⟩
    obtain ⟨x8, hx8⟩ : ∃ x, s 8 = x := ⟨_, rfl⟩
    obtain ⟨x9, hx9⟩ : ∃ x, s 9 = x := ⟨_, rfl⟩
    have HX := Lib.hid (And.intro hx0 (And.intro hx1 (And.intro hx2 (And.intro hx3 (And.intro hx4 (And.intro hx5 (And.intro hx6 (And.intro hx7 (And.intro hx8 hx9)))))))))
    have HCH := Lib.hid hch
    replace kS : mblk w bs = some (.cells #[.bool (s 0), .bool (s 1), .bool (s 2), .bool (s 3), .bool (s 4), .bool (s 5), .bool (s 6), .bool (s 7), .bool (s 8), .bool (s 9)] 79 (0, 0)) := kS
    replace HP : Hid (∀ w' (u : Up w0 w'), Calls Try.prog 74 #[BkV M bl bh rl rh (.slice aP nP cP) (.slice aQ nQ cQ) (.slice aL nL cL) o, .agg #[.bool (s 0), .bool (s 1), .bool (s 2), .bool (s 3), .bool (s 4), .bool (s 5), .bool (s 6), .bool (s 7), .bool (s 8), .bool (s 9)]] w' fun e w'' => e = .returned (.bool (P s)) ∧ Up w' w'') := HP
    rw [hx0, hx1, hx2, hx3, hx4, hx5, hx6, hx7, hx8, hx9] at HP kS
    clear hx0 hx1 hx2 hx3 hx4 hx5 hx6 hx7 hx8 hx9 hs hP hch kM kC
    go_enter Try.func97, Try.ntmps97
    go_wp2_with fail
    refine (HP.out w U).mono ?_
    rintro e w1 ⟨rfl, u1⟩
    have kS1 := u1.blk kS
    clear HP kS kD
    go_wp2
    go_ret
    obtain ⟨y0, y1, y2, y3, y4, y5, y6, y7, y8, y9⟩ := HX.out
    refine ⟨⟨P s, s, rfl, ?_, by show mblk w1 bs = some (.cells #[.bool (s 0), .bool (s 1), .bool (s 2), .bool (s 3), .bool (s 4), .bool (s 5), .bool (s 6), .bool (s 7), .bool (s 8), .bool (s 9)] 79 (0, 0)); rw [y0, y1, y2, y3, y4, y5, y6, y7, y8, y9]; exact kS1⟩, up_grown u1 _⟩
    rw [HCH.out]
    cases P s
    · exact .inr ⟨rfl, rfl, rfl⟩
    · exact .inl ⟨rfl, rfl⟩
  | succ left ih =>
    intro fr s w hl hf hs U kS kD kM kC
    have HIH := Lib.hid ih
    clear ih
    have hl0 : ((((left + 1 : Nat) : Int)) == 0) = false := by rw [beq_eq_false_iff_ne]; omega
    have ewl : IntKind.i64.wrap (((left + 1 : Nat) : Int) - 1) = (left : Int) := by rw [show ((left + 1 : Nat) : Int) - 1 = left by omega]; exact IntWalk.i64_in _ (by omega)
    have HS := Lib.hid hs
    have HU0 := Lib.hid U
    clear hs
    obtain ⟨L, hL⟩ : ∃ x : Int, ((left + 1 : Nat) : Int) = x := ⟨_, rfl⟩
    rw [hL] at hl0 ewl ⊢
    go_enter Try.func97, Try.ntmps97
    go_wp2_with fail
    go_loopw [9] (fun i wr => ∃ c : Nat, fr ≤ c ∧ c ≤ 10 ∧ i = .int .i64 c ∧ Hid (T.ch P many (left + 1) fr s = (List.range' c (many - c)).findSome? fun c => T.ch P many left (c + 1) (T.st s c true)) ∧ mblk wr bs = some (.cells (T.bc s) 79 (0, 0)) ∧ w.grownBy wr (some bs)) (fun i _ => 11 - (intOf i).toNat)
    case atStart => exact ⟨fr, Nat.le_refl _, hf, rfl, Lib.hid rfl, kS, up_grown (Up.refl w) _⟩
    case round =>
      clear kS
      obtain ⟨c, hc1, hc2, rfl, hfs, kS, hG⟩ := hrel
      have kD1 := grown_blk hG kD (fun e => by have := Option.some.inj e; omega)
      have kM1 := grown_blk hG kM (fun e => by have := Option.some.inj e; omega)
      have kC1 := grown_blk hG kC (fun e => by have := Option.some.inj e; omega)
      have fS := frozB kS
      have lS := blk_lt kS
      by_cases hlt : c < many
      · have hst := T.find_step (fun c => T.ch P many left (c + 1) (T.st s c true)) hlt
        have HST := Lib.hid hst
        clear hst
        have c5 : c < 10 := by omega
        have kS2 := blk_put kS c (.bool true)
        rw [T.bc_st s c5 true] at kS2
        have g2 := grown_set wr bs c (.bool true)
        obtain ⟨vx, cx⟩ : ∃ v, wr.cell? ⟨bs, c, none⟩ = some v := ⟨_, (cellB kS c).trans (Array.getElem?_eq_getElem (show c < (T.bc s).size from c5))⟩
        have hsc := HS.out c hc1
        have hs2 : ∀ k, c + 1 ≤ k → T.st s c true k = false := fun k hk => by unfold T.st; rw [if_neg (by omega)]; exact HS.out k (by omega)
        obtain ⟨w2, hw2⟩ : ∃ z, wr.setCell ⟨bs, c, none⟩ (.bool true) = z := ⟨_, rfl⟩
        rw [hw2] at kS2 g2
        have kD2 := grown_blk g2 kD1 (fun e => by have := Option.some.inj e; omega)
        have kM2 := grown_blk g2 kM1 (fun e => by have := Option.some.inj e; omega)
        have kC2 := grown_blk g2 kC1 (fun e => by have := Option.some.inj e; omega)
        have hG2 := grown_trans hG g2
        have U2 := HU0.out.grown hG2 (fun k e => by have := Option.some.inj e; omega)
        have hC := HIH.out (c + 1) (T.st s c true) w2 (by omega) (by omega) hs2 U2 kS2 kD2 kM2 kC2
        have HC := Lib.hid hC
        have HCV := Lib.hid (And.intro hsc (And.intro hG g2))
        have d1 : decide (c < many) = true := decide_eq_true hlt
        clear hC hs2 kS2 hsc hlt hG g2 HIH HS HU0 kD2 kM2 U2 hG2 kD1
        go_wp2_with fail
        refine HC.out.mono ?_
        rintro e w3 ⟨⟨r, s', rfl, hr, kS3⟩, g3⟩
        have HR := Lib.hid hr
        have HG3 := Lib.hid g3
        clear HC hr g3 kS hw2 kM1 kC1 kC2 kM kC kD fS lS
        cases r with
        | true =>
          go_wp2
          go_ret
          obtain ⟨hsc, hG, g2⟩ := HCV.out
          have hh : T.ch P many left (c + 1) (T.st s c true) = some s' := by rcases HR.out with ⟨_, h⟩ | ⟨h, _⟩; exact h; cases h
          refine ⟨⟨true, s', rfl, .inl ⟨rfl, ?_⟩, kS3⟩, grown_trans hG (grown_trans g2 HG3.out)⟩
          rw [hfs.out, HST.out, hh]
        | false =>
          obtain ⟨hn, rfl⟩ : T.ch P many left (c + 1) (T.st s c true) = none ∧ s' = T.st s c true := by rcases HR.out with ⟨h, _⟩ | ⟨_, h⟩; cases h; exact h
          obtain ⟨vy, cy⟩ : ∃ v, w3.cell? ⟨bs, c, none⟩ = some v := ⟨_, (cellB kS3 c).trans (Array.getElem?_eq_getElem (show c < (T.bc (T.st s c true)).size from c5))⟩
          have kS4 := blk_put kS3 c (.bool false)
          rw [T.bc_st _ c5 false, T.st_back HCV.out.1] at kS4
          have HG4 := Lib.hid (grown_set w3 bs c (.bool false))
          have HK4 := Lib.hid kS4
          have ew : IntKind.i64.wrap ((c : Int) + 1) = ((c + 1 : Nat) : Int) := IntWalk.i64_in _ (by omega)
          have HN := Lib.hid hn
          have fS3 := frozB kS3
          have lS3 := blk_lt kS3
          clear kS4 kS3 hn
          go_wp2
          obtain ⟨hsc, hG, g2⟩ := HCV.out
          refine ⟨⟨c + 1, by omega, by omega, rfl, Lib.hid ?_, HK4.out, grown_trans hG (grown_trans g2 (grown_trans HG3.out HG4.out))⟩, by simp only [intOf]; omega⟩
          rw [hfs.out, HST.out, HN.out]
      · have d1 : decide (c < many) = false := decide_eq_false hlt
        have HK := Lib.hid kS
        clear kS
        go_wp2
        go_ret
        refine ⟨⟨false, s, rfl, .inr ⟨rfl, ?_, rfl⟩, HK.out⟩, hG⟩
        rw [hfs.out]
        exact T.find_end _ (by omega)
theorem sz1 (w : World) (o : Obj) : (w.alloc o).heap.size = w.heap.size + 1 := Array.size_push ..
/-- the first set that will do, of as few looks as will -/
def T.few (P : (Nat → Bool) → Bool) (many : Nat) (k : Nat) : Option (Nat → Bool) := (List.range' k (many + 1 - k)).findSome? fun l => T.ch P many l 0 (fun _ => false)
def T.fewS (P : (Nat → Bool) → Bool) (many : Nat) : Nat → Bool := (T.few P many 0).getD (fun _ => false)
theorem infoLks : (Try.prog.info? 79).map (·.size) = some 10 := by kernel_rfl
def Ok10 (cs : Array Value) : Prop := cs.size = 10 ∧ cs.all (·.oneCell') = true
theorem ok10 (s : Nat → Bool) : Ok10 (T.bc s) := ⟨rfl, by simp [Value.oneCell']⟩
def lookLoad (v : Value) : Sem Value := Instr.loadAt 79 v
theorem lookLoad_eq (v : Value) : Instr.loadAt 79 v = lookLoad v := rfl
theorem run_lookLoad (w : World) (b : Nat) (cs : Array Value) (hg : mblk w b = some (.cells cs 79 (0, 0))) (hs : Hid (cs.size = 10)) : (lookLoad (.pointer (some ⟨b, 0, none⟩))).run Try.prog w = .ok (.agg cs) w := by
  have q := run_loadVar_row w b 79 79 cs (0, 0) _ hg Try.underlying79 rfl (by rw [infoLks, hs.out])
  simp only [lookLoad, Instr.loadAt, Instr.sureAddr, Sem.run_bind, Sem.run_pure, Result.andThen_ok, q]
def lookStore (p v : Value) : Sem Unit := Instr.storeAt 79 p v
theorem lookStore_eq (p v : Value) : Instr.storeAt 79 p v = lookStore p v := rfl
theorem run_lookStore_row (w : World) (b : Nat) (old cs : Array Value) (hg : mblk w b = some (.cells old 79 (0, 0))) (ho : Hid (old.size = 10)) (hs : Ok10 cs) :
    (lookStore (.pointer (some ⟨b, 0, none⟩)) (.agg cs)).run Try.prog w = .ok () (w.setRow b cs) := by
  have q := run_storeVar_row (P := Try.prog) w b 79 79 old cs hg (by rw [infoLks, hs.1]) (by rw [ho.out, hs.1]) hs.2
  simp only [lookStore, Instr.storeAt, Instr.sureAddr, Sem.run_bind, Sem.run_pure, Result.andThen_ok, q]
theorem results_lks {fn : Func} {p : Tmp} (h : fn.results = #[.cell p 79]) (tmps : Array Value) (w : World) (g : Nat) (cs : Array Value) (hp : tmps.getD p undef = .pointer (some ⟨g, 0, none⟩)) (hg : mblk w g = some (.cells cs 79 (0, 0))) (hs : cs.size = 10) :
    (results fn tmps).run Try.prog w = .ok (.agg cs) w := by
  have q := run_loadVar_row w g 79 79 cs (0, 0) _ hg Try.underlying79 rfl (by rw [infoLks, hs])
  have hp' : tmps[p]?.getD undef = .pointer (some ⟨g, 0, none⟩) := by simpa using hp
  simp only [results, h]
  simp [hp', asAddr, q]
attribute [local go_sem ↓] lookLoad_eq lookStore_eq
attribute [local go_sem] run_lookLoad run_lookStore_row
set_option maxRecDepth 100000 in
set_option maxHeartbeats 4000000 in
theorem fewest_any (hm : many ≤ 10) (hP : ∀ w', Up w0 w' → ∀ s : Nat → Bool, Calls Try.prog 74 #[BkV M bl bh rl rh (.slice aP nP cP) (.slice aQ nQ cQ) (.slice aL nL cL) o, LoV s] w' fun e w'' => e = .returned (.bool (P s)) ∧ Up w' w'') :
    Calls Try.prog 73 #[.int .i64 many, .func (.func 74) #[BkV M bl bh rl rh (.slice aP nP cP) (.slice aQ nQ cQ) (.slice aL nL cL) o] #[]] w0 fun e w' => e = .returned (LoV (T.fewS P many)) ∧ Up w0 w' := by
  have HF := Lib.hid (fun bd bs bm bch hbs hne => fewest1_any (P := P) (bd := bd) (bs := bs) (bm := bm) (bch := bch) hm hP hbs hne)
  clear hP
  go_enter Try.func73, Try.ntmps73
  go_wp2_with fail
  have UW : Up w0 (((((w0.alloc (.cells #[.int .i64 many] 3)).alloc (.cells #[.func (.func 74) #[BkV M bl bh rl rh (.slice aP nP cP) (.slice aQ nQ cQ) (.slice aL nL cL) o] #[]] 113)).alloc (.cells #[.bool false, .bool false, .bool false, .bool false, .bool false, .bool false, .bool false, .bool false, .bool false, .bool false] 79)).alloc (.cells #[.bool false, .bool false, .bool false, .bool false, .bool false, .bool false, .bool false, .bool false, .bool false, .bool false] 79)).alloc (.cells #[.func (.func 97) #[] #[.pointer (some ⟨w0.heap.size + 1, 0, none⟩), .pointer (some ⟨w0.heap.size + 1 + 1 + 1, 0, none⟩), .pointer (some ⟨w0.heap.size, 0, none⟩), .pointer (some ⟨w0.heap.size + 1 + 1 + 1 + 1, 0, none⟩)]] 124)) := (((((Up.refl w0).alloc _).alloc _).alloc _).alloc _).alloc _
  have k0 : mblk (((((w0.alloc (.cells #[.int .i64 many] 3)).alloc (.cells #[.func (.func 74) #[BkV M bl bh rl rh (.slice aP nP cP) (.slice aQ nQ cQ) (.slice aL nL cL) o] #[]] 113)).alloc (.cells #[.bool false, .bool false, .bool false, .bool false, .bool false, .bool false, .bool false, .bool false, .bool false, .bool false] 79)).alloc (.cells #[.bool false, .bool false, .bool false, .bool false, .bool false, .bool false, .bool false, .bool false, .bool false, .bool false] 79)).alloc (.cells #[.func (.func 97) #[] #[.pointer (some ⟨w0.heap.size + 1, 0, none⟩), .pointer (some ⟨w0.heap.size + 1 + 1 + 1, 0, none⟩), .pointer (some ⟨w0.heap.size, 0, none⟩), .pointer (some ⟨w0.heap.size + 1 + 1 + 1 + 1, 0, none⟩)]] 124)) w0.heap.size = some (.cells #[.int .i64 many] 3 (0, 0)) := blk_keep _ (blk_keep _ (blk_keep _ (blk_keep _ (blk_new _ _ _ rfl))))
  have k1 : mblk (((((w0.alloc (.cells #[.int .i64 many] 3)).alloc (.cells #[.func (.func 74) #[BkV M bl bh rl rh (.slice aP nP cP) (.slice aQ nQ cQ) (.slice aL nL cL) o] #[]] 113)).alloc (.cells #[.bool false, .bool false, .bool false, .bool false, .bool false, .bool false, .bool false, .bool false, .bool false, .bool false] 79)).alloc (.cells #[.bool false, .bool false, .bool false, .bool false, .bool false, .bool false, .bool false, .bool false, .bool false, .bool false] 79)).alloc (.cells #[.func (.func 97) #[] #[.pointer (some ⟨w0.heap.size + 1, 0, none⟩), .pointer (some ⟨w0.heap.size + 1 + 1 + 1, 0, none⟩), .pointer (some ⟨w0.heap.size, 0, none⟩), .pointer (some ⟨w0.heap.size + 1 + 1 + 1 + 1, 0, none⟩)]] 124)) (w0.heap.size + 1) = some (.cells #[.func (.func 74) #[BkV M bl bh rl rh (.slice aP nP cP) (.slice aQ nQ cQ) (.slice aL nL cL) o] #[]] 113 (0, 0)) := blk_keep _ (blk_keep _ (blk_keep _ (blk_new _ _ _ (by simp only [sz1]))))
  have k2 : mblk (((((w0.alloc (.cells #[.int .i64 many] 3)).alloc (.cells #[.func (.func 74) #[BkV M bl bh rl rh (.slice aP nP cP) (.slice aQ nQ cQ) (.slice aL nL cL) o] #[]] 113)).alloc (.cells #[.bool false, .bool false, .bool false, .bool false, .bool false, .bool false, .bool false, .bool false, .bool false, .bool false] 79)).alloc (.cells #[.bool false, .bool false, .bool false, .bool false, .bool false, .bool false, .bool false, .bool false, .bool false, .bool false] 79)).alloc (.cells #[.func (.func 97) #[] #[.pointer (some ⟨w0.heap.size + 1, 0, none⟩), .pointer (some ⟨w0.heap.size + 1 + 1 + 1, 0, none⟩), .pointer (some ⟨w0.heap.size, 0, none⟩), .pointer (some ⟨w0.heap.size + 1 + 1 + 1 + 1, 0, none⟩)]] 124)) (w0.heap.size + 1 + 1) = some (.cells #[.bool false, .bool false, .bool false, .bool false, .bool false, .bool false, .bool false, .bool false, .bool false, .bool false] 79 (0, 0)) := blk_keep _ (blk_keep _ (blk_new _ _ _ (by simp only [sz1])))
  have k3 : mblk (((((w0.alloc (.cells #[.int .i64 many] 3)).alloc (.cells #[.func (.func 74) #[BkV M bl bh rl rh (.slice aP nP cP) (.slice aQ nQ cQ) (.slice aL nL cL) o] #[]] 113)).alloc (.cells #[.bool false, .bool false, .bool false, .bool false, .bool false, .bool false, .bool false, .bool false, .bool false, .bool false] 79)).alloc (.cells #[.bool false, .bool false, .bool false, .bool false, .bool false, .bool false, .bool false, .bool false, .bool false, .bool false] 79)).alloc (.cells #[.func (.func 97) #[] #[.pointer (some ⟨w0.heap.size + 1, 0, none⟩), .pointer (some ⟨w0.heap.size + 1 + 1 + 1, 0, none⟩), .pointer (some ⟨w0.heap.size, 0, none⟩), .pointer (some ⟨w0.heap.size + 1 + 1 + 1 + 1, 0, none⟩)]] 124)) (w0.heap.size + 1 + 1 + 1) = some (.cells #[.bool false, .bool false, .bool false, .bool false, .bool false, .bool false, .bool false, .bool false, .bool false, .bool false] 79 (0, 0)) := blk_keep _ (blk_new _ _ _ (by simp only [sz1]))
  have k4 : mblk (((((w0.alloc (.cells #[.int .i64 many] 3)).alloc (.cells #[.func (.func 74) #[BkV M bl bh rl rh (.slice aP nP cP) (.slice aQ nQ cQ) (.slice aL nL cL) o] #[]] 113)).alloc (.cells #[.bool false, .bool false, .bool false, .bool false, .bool false, .bool false, .bool false, .bool false, .bool false, .bool false] 79)).alloc (.cells #[.bool false, .bool false, .bool false, .bool false, .bool false, .bool false, .bool false, .bool false, .bool false, .bool false] 79)).alloc (.cells #[.func (.func 97) #[] #[.pointer (some ⟨w0.heap.size + 1, 0, none⟩), .pointer (some ⟨w0.heap.size + 1 + 1 + 1, 0, none⟩), .pointer (some ⟨w0.heap.size, 0, none⟩), .pointer (some ⟨w0.heap.size + 1 + 1 + 1 + 1, 0, none⟩)]] 124)) (w0.heap.size + 1 + 1 + 1 + 1) = some (.cells #[.func (.func 97) #[] #[.pointer (some ⟨w0.heap.size + 1, 0, none⟩), .pointer (some ⟨w0.heap.size + 1 + 1 + 1, 0, none⟩), .pointer (some ⟨w0.heap.size, 0, none⟩), .pointer (some ⟨w0.heap.size + 1 + 1 + 1 + 1, 0, none⟩)]] 124 (0, 0)) := blk_new _ _ _ (by simp only [sz1])
  generalize (((((w0.alloc (.cells #[.int .i64 many] 3)).alloc (.cells #[.func (.func 74) #[BkV M bl bh rl rh (.slice aP nP cP) (.slice aQ nQ cQ) (.slice aL nL cL) o] #[]] 113)).alloc (.cells #[.bool false, .bool false, .bool false, .bool false, .bool false, .bool false, .bool false, .bool false, .bool false, .bool false] 79)).alloc (.cells #[.bool false, .bool false, .bool false, .bool false, .bool false, .bool false, .bool false, .bool false, .bool false, .bool false] 79)).alloc (.cells #[.func (.func 97) #[] #[.pointer (some ⟨w0.heap.size + 1, 0, none⟩), .pointer (some ⟨w0.heap.size + 1 + 1 + 1, 0, none⟩), .pointer (some ⟨w0.heap.size, 0, none⟩), .pointer (some ⟨w0.heap.size + 1 + 1 + 1 + 1, 0, none⟩)]] 124)) = W at UW k0 k1 k2 k3 k4 ⊢
  obtain ⟨q, hq⟩ : ∃ x, w0.heap.size = x := ⟨_, rfl⟩
  rw [hq] at k0 k1 k2 k3 k4 ⊢
  have HQ := Lib.hid hq
  clear hq
  have ew : IntKind.i64.wrap ((many : Int) + 1) = (many : Int) + 1 := IntWalk.i64_in _ (by omega)
  have HK0 := Lib.hid (fun w' (u : W.grownBy w' (some (q + 1 + 1 + 1))) => grown_blk u k0 (fun e => by have := Option.some.inj e; omega))
  have HK1 := Lib.hid (fun w' (u : W.grownBy w' (some (q + 1 + 1 + 1))) => grown_blk u k1 (fun e => by have := Option.some.inj e; omega))
  have HK2 := Lib.hid (fun w' (u : W.grownBy w' (some (q + 1 + 1 + 1))) => grown_blk u k2 (fun e => by have := Option.some.inj e; omega))
  have HK4 := Lib.hid (fun w' (u : W.grownBy w' (some (q + 1 + 1 + 1))) => grown_blk u k4 (fun e => by have := Option.some.inj e; omega))
  have HUW := Lib.hid UW
  clear UW k1 k2 k4
  go_wp2_with fail
  clear k0
  go_loopw [7, 11] (fun _ i wr => ∃ k : Nat, k ≤ many + 1 ∧ i = .int .i64 k ∧ Hid (T.few P many 0 = T.few P many k) ∧ mblk wr (q + 1 + 1 + 1) = some (.cells (T.bc (fun _ => false)) 79 (0, 0)) ∧ W.grownBy wr (some (q + 1 + 1 + 1))) (fun _ i _ => 12 - (intOf i).toNat)
  case atStart => exact ⟨0, by omega, rfl, Lib.hid rfl, k3, up_grown (Up.refl W) _⟩
  case round =>
    clear k3
    obtain ⟨k, hk, rfl, hfs, kS, hG⟩ := hrel
    have k0 := HK0.out _ hG
    have k1 := HK1.out _ hG
    have k2 := HK2.out _ hG
    have k4 := HK4.out _ hG
    have U := HUW.out.grown hG (fun b e => by have := Option.some.inj e; have := HQ.out; omega)
    by_cases hlt : k < many + 1
    · have d1 : decide ((k : Int) < (many : Int) + 1) = true := decide_eq_true (by omega)
      have hlt' : (k : Int) < (many : Int) + 1 := by omega
      have HC := Lib.hid (HF.out (q + 1) (q + 1 + 1 + 1) q (q + 1 + 1 + 1 + 1) (by have := HQ.out; omega) (by omega) k 0 (fun _ => false) wr (by omega) (by omega) (fun _ _ => rfl) U kS k1 k0 k4)
      have HG := Lib.hid hG
      have HU := Lib.hid U
      clear hG U kS k0 k1 k2
      have hst := T.find_step (fun l => T.ch P many l 0 (fun _ => false)) hlt
      have HST := Lib.hid hst
      clear hst
      go_wp2_with fail
      refine HC.out.mono ?_
      rintro e w2 ⟨⟨r, s', rfl, hr, kS2⟩, g2⟩
      have k2 := HK2.out _ (grown_trans HG.out g2)
      have U2 := HUW.out.grown (grown_trans HG.out g2) (fun b e => by have := Option.some.inj e; have := HQ.out; omega)
      have HR := Lib.hid hr
      have HG2 := Lib.hid g2
      have HU2 := Lib.hid U2
      clear HC hr g2 k4 U2
      cases r with
      | true =>
        have hh : T.ch P many k 0 (fun _ => false) = some s' := by rcases HR.out with ⟨_, h⟩ | ⟨h, _⟩; exact h; cases h
        have HH := Lib.hid hh
        have fS2 := frozB k2
        have lS2 := blk_lt k2
        have hl2 := blk_lt kS2
        have hok := ok10 s'
        obtain ⟨ck, hck⟩ : ∃ x, T.bc s' = x := ⟨_, rfl⟩
        have HCK := Lib.hid hck
        replace kS2 : mblk w2 (q + 1 + 1 + 1) = some (.cells (T.bc s') 79 (0, 0)) := kS2
        rw [hck] at kS2 hok
        have hsz := Lib.hid hok.1
        have hz2 : Hid ((#[.bool false, .bool false, .bool false, .bool false, .bool false, .bool false, .bool false, .bool false, .bool false, .bool false] : Array Value).size = 10) := Lib.hid rfl
        have hst2 := run_lookStore_row w2 (q + 1 + 1) #[.bool false, .bool false, .bool false, .bool false, .bool false, .bool false, .bool false, .bool false, .bool false, .bool false] ck k2 hz2 hok
        have kF := Lib.hid (blk_setRow k2 ck)
        have UF := Lib.hid (HU2.out.grown (grown_row w2 (q + 1 + 1) ck) (fun b e => by have := Option.some.inj e; have := HQ.out; omega))
        clear hh HR hck k2 hz2
        go_wp2_with fail
        refine bodyPost_ret (results_lks rfl _ _ _ _ rfl kF.out hsz.out) rfl ?_
        have hw : T.fewS P many = s' := by
          unfold T.fewS
          rw [hfs.out]
          unfold T.few
          rw [HST.out, HH.out]
          rfl
        exact ⟨by rw [hw, ← HCK.out], UF.out⟩
      | false =>
        obtain ⟨hn, rfl⟩ : T.ch P many k 0 (fun _ => false) = none ∧ s' = fun _ => false := by rcases HR.out with ⟨h, _⟩ | ⟨_, h⟩; cases h; exact h
        have HN := Lib.hid hn
        have HKS := Lib.hid kS2
        have ew1 : IntKind.i64.wrap ((k : Int) + 1) = (k : Int) + 1 := IntWalk.i64_in _ (by omega)
        clear hn kS2 HR k2
        go_wp2
        refine ⟨⟨k + 1, by omega, rfl, Lib.hid ?_, HKS.out, grown_trans HG.out HG2.out⟩, by simp only [intOf]; omega⟩
        rw [hfs.out]
        unfold T.few
        rw [HST.out, HN.out]
    · have d1 : decide ((k : Int) < (many : Int) + 1) = false := decide_eq_false (by omega)
      have hlt' : ¬ (k : Int) < (many : Int) + 1 := by omega
      have fS2 := frozB k2
      have lS2 := blk_lt k2
      have HU := Lib.hid U
      have hok := ok10 (fun _ => false)
      obtain ⟨ck, hck⟩ : ∃ x, T.bc (fun _ => false) = x := ⟨_, rfl⟩
      have HCK := Lib.hid hck
      rw [hck] at kS hok
      have hsz := Lib.hid hok.1
      have hz2 : Hid ((#[.bool false, .bool false, .bool false, .bool false, .bool false, .bool false, .bool false, .bool false, .bool false, .bool false] : Array Value).size = 10) := Lib.hid rfl
      have hst2 := run_lookStore_row wr (q + 1 + 1) #[.bool false, .bool false, .bool false, .bool false, .bool false, .bool false, .bool false, .bool false, .bool false, .bool false] ck k2 hz2 hok
      have kF := Lib.hid (blk_setRow k2 ck)
      have UF := Lib.hid (HU.out.grown (grown_row wr (q + 1 + 1) ck) (fun b e => by have := Option.some.inj e; have := HQ.out; omega))
      clear k0 k1 k4 U k2 hck hz2
      go_wp2_with fail
      refine bodyPost_ret (results_lks rfl _ _ _ _ rfl kF.out hsz.out) rfl ?_
      have hw : T.fewS P many = fun _ => false := by
        unfold T.fewS
        rw [hfs.out]
        unfold T.few
        rw [T.find_end _ (by omega)]
        rfl
      exact ⟨by rw [hw, ← HCK.out], UF.out⟩
end

end Go.Proofs.Ytlpkheoljbdajaa
