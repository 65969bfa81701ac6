import Derived.Test.YtlpkheoljbdajaaMap
/- The contracts of learn and learnBoth. -/
namespace Go.Proofs.Ytlpkheoljbdajaa
open Go.RowKit

abbrev T.Kn := Int × Int → Option (Int × Int)
/-- how a span comes to what is known -/
def T.joinB (a : Option (Int × Int)) (s : Int × Int) : Int × Int := match a with | none => s | some b => (max b.1 s.1, min b.2 s.2)
def T.trn (s : Int × Int) : Int × Int := (-s.2, -s.1)
def T.swp (x : Int × Int) : Int × Int := (x.2, x.1)
/-- no span goes farther than a number -/
def T.Bs (B : Int) (s : Int × Int) : Prop := (-B ≤ s.1 ∧ s.1 ≤ B) ∧ (-B ≤ s.2 ∧ s.2 ≤ B)
def T.Bd (B : Int) (K : T.Kn) : Prop := ∀ x s, K x = some s → T.Bs B s
def T.lrn1 (K : T.Kn) (x s : Int × Int) : T.Kn := T.upd K x (T.joinB (K x) s)
def T.lrn (K : T.Kn) (x s : Int × Int) : T.Kn := T.lrn1 (T.lrn1 K x s) (T.swp x) (T.trn s)
theorem up_grown {w w' : World} (h : Up w w') (r : Option Nat) : w.grownBy w' r := ⟨h.os, h.tape, h.output, h.size, fun k hk _ => Below.block h k hk⟩
theorem grown_trans {a b c : World} {r : Option Nat} (h : a.grownBy b r) (k : b.grownBy c r) : a.grownBy c r := ⟨k.os.trans h.os, k.tape.trans h.tape, k.output.trans h.output, Nat.le_trans h.size k.size, fun i hi hr => (k.block i (Nat.lt_of_lt_of_le hi h.size) hr).trans (h.block i hi hr)⟩
theorem T.Bs.trn {B : Int} {s : Int × Int} (h : T.Bs B s) : T.Bs B (T.trn s) := ⟨⟨by have := h.2.2; show -B ≤ -s.2; omega, by have := h.2.1; show -s.2 ≤ B; omega⟩, ⟨by have := h.1.2; show -B ≤ -s.1; omega, by have := h.1.1; show -s.1 ≤ B; omega⟩⟩
theorem T.Bd.mono {B C : Int} {K : T.Kn} (h : T.Bd B K) (hc : B ≤ C) : T.Bd C K := fun x s hs => by
  have := h x s hs
  exact ⟨⟨by have := this.1.1; omega, by have := this.1.2; omega⟩, ⟨by have := this.2.1; omega, by have := this.2.2; omega⟩⟩
theorem T.bd_none (B : Int) : T.Bd B fun _ => none := fun _ _ h => by cases h
theorem T.Bd.put {B : Int} {K : T.Kn} (h : T.Bd B K) {x s : Int × Int} (hs : T.Bs B s) : T.Bd B (T.upd K x s) := fun a s' e => by
  unfold T.upd at e
  split at e
  · rw [← Option.some.inj e]; exact hs
  · exact h a s' e
theorem T.joinB_bs {B : Int} {o : Option (Int × Int)} {s : Int × Int} (ho : ∀ b, o = some b → T.Bs B b) (hs : T.Bs B s) : T.Bs B (T.joinB o s) := by
  cases o with
  | none => exact hs
  | some b =>
    have h := ho b rfl
    obtain ⟨⟨a1, a2⟩, a3, a4⟩ := h
    obtain ⟨⟨b1, b2⟩, b3, b4⟩ := hs
    exact ⟨⟨by show -B ≤ max b.1 s.1; omega, by show max b.1 s.1 ≤ B; omega⟩, ⟨by show -B ≤ min b.2 s.2; omega, by show min b.2 s.2 ≤ B; omega⟩⟩
theorem T.lrn1_B {B : Int} {K : T.Kn} (h : T.Bd B K) {x s : Int × Int} (hs : T.Bs B s) : T.Bd B (T.lrn1 K x s) := h.put (T.joinB_bs (fun b e => h x b e) hs)
theorem T.lrn_B {B : Int} {K : T.Kn} (h : T.Bd B K) {x s : Int × Int} (hs : T.Bs B s) : T.Bd B (T.lrn K x s) := T.lrn1_B (T.lrn1_B h hs) hs.trn
set_option maxRecDepth 100000 in
set_option maxHeartbeats 1000000 in
theorem learn_no {w : World} {m : Nat} {K : T.Kn} {N : Nat} (h : T.Inn w m N K) (hN : N < 100000) {x s : Int × Int} (hx : T.in64 x) (hk : K x = none) :
    Calls Try.prog 127 #[.map (some m), .agg #[.int .i64 x.1, .int .i64 x.2, .int .i64 s.1, .int .i64 s.2]] w fun e w' => e = .returned (.tuple #[]) ∧ T.Inn w' m (N + 1) (T.lrn1 K x s) ∧ w.grownBy w' (some m) := by
  have U := (Up.refl w).alloc (.cells #[.int .i64 x.1, .int .i64 x.2, .int .i64 s.1, .int .i64 s.2] 145)
  have kt := blk_new w (.cells #[.int .i64 x.1, .int .i64 x.2, .int .i64 s.1, .int .i64 s.2] 145) _ rfl
  have lm := h.lt
  have HI := Lib.hid (fun w' (u : Up w w') => (h.up u).no hx hk)
  have HP := Lib.hid (fun w' (u : Up w w') (v : Int × Int) => (h.up u).put (by omega) hx v)
  have HV := Lib.hid (show T.lrn1 K x s = T.upd K x (s.1, s.2) by unfold T.lrn1; rw [hk]; rfl)
  clear h hk
  clear hN
  obtain ⟨p, hp⟩ : ∃ p, w.heap.size = p := ⟨_, rfl⟩
  obtain ⟨W0, hW⟩ : ∃ z, w.alloc (.cells #[.int .i64 x.1, .int .i64 x.2, .int .i64 s.1, .int .i64 s.2] 145) = z := ⟨_, rfl⟩
  have kt' := kt
  rw [hp, hW] at kt'
  have U' := U
  rw [hW] at U'
  have q := HI.out W0 U'
  have lp := blk_lt kt'
  clear kt U
  go_enter Try.func127, Try.ntmps127
  obtain ⟨w9, hrun, hI9, hg9⟩ := HP.out (W0.alloc (.cells #[.int .i64 0, .int .i64 0] 23)) (U'.alloc (.cells #[.int .i64 0, .int .i64 0] 23)) (s.1, s.2)
  have hrun' : (Instr.mapUpdate 139 (.map (some m)) (TwV x.1 x.2) (SpV s.1 s.2)).run Try.prog (W0.alloc (.cells #[.int .i64 0, .int .i64 0] 23)) = .ok () w9 := hrun
  have HF := Lib.hid (show T.Inn w9 m (N + 1) (T.lrn1 K x s) ∧ w.grownBy w9 (some m) from ⟨by rw [HV.out]; exact hI9, grown_trans (up_grown (U'.alloc (.cells #[.int .i64 0, .int .i64 0] 23)) _) hg9⟩)
  clear hrun hI9 hg9 HP HI HV
  go_wp2
  go_end0
  exact ⟨rfl, HF.out⟩
set_option maxRecDepth 100000 in
set_option maxHeartbeats 1000000 in
theorem learn_yes {w : World} {m : Nat} {K : T.Kn} {N : Nat} (h : T.Inn w m N K) (hN : N < 100000) {x s : Int × Int} (hx : T.in64 x) {s0 : Int × Int} (hk : K x = some s0) (hb : T.Bs 10000000 s0) (hs : T.Bs 10000000 s) :
    Calls Try.prog 127 #[.map (some m), .agg #[.int .i64 x.1, .int .i64 x.2, .int .i64 s.1, .int .i64 s.2]] w fun e w' => e = .returned (.tuple #[]) ∧ T.Inn w' m (N + 1) (T.lrn1 K x s) ∧ w.grownBy w' (some m) := by
  have U := (Up.refl w).alloc (.cells #[.int .i64 x.1, .int .i64 x.2, .int .i64 s.1, .int .i64 s.2] 145)
  have kt := blk_new w (.cells #[.int .i64 x.1, .int .i64 x.2, .int .i64 s.1, .int .i64 s.2] 145) _ rfl
  have lm := h.lt
  have HI := Lib.hid (fun w' (u : Up w w') => (h.up u).yes hx hk)
  have HP := Lib.hid (fun w' (u : Up w w') (v : Int × Int) => (h.up u).put (by omega) hx v)
  have HJ := Lib.hid (fun w => both_any s0.1 s0.2 s.1 s.2 w hb.1.1 hb.1.2 hs.1.1 hs.1.2)
  have HV := Lib.hid (show T.lrn1 K x s = T.upd K x (max s0.1 s.1, min s0.2 s.2) by unfold T.lrn1; rw [hk]; rfl)
  obtain ⟨j1, hj1⟩ : ∃ z, max s0.1 s.1 = z := ⟨_, rfl⟩
  obtain ⟨j2, hj2⟩ : ∃ z, min s0.2 s.2 = z := ⟨_, rfl⟩
  rw [hj1, hj2] at HJ HV
  clear h hk hj1 hj2 hb hs
  clear hN
  obtain ⟨p, hp⟩ : ∃ p, w.heap.size = p := ⟨_, rfl⟩
  obtain ⟨W0, hW⟩ : ∃ z, w.alloc (.cells #[.int .i64 x.1, .int .i64 x.2, .int .i64 s.1, .int .i64 s.2] 145) = z := ⟨_, rfl⟩
  have kt' := kt
  rw [hp, hW] at kt'
  have U' := U
  rw [hW] at U'
  have q := HI.out W0 U'
  have lp := blk_lt kt'
  clear kt U
  go_enter Try.func127, Try.ntmps127
  have V := U'.alloc (.cells #[.int .i64 s0.1, .int .i64 s0.2] 23)
  have kt2 := blk_keep (.cells #[.int .i64 s0.1, .int .i64 s0.2] 23) kt'
  have ks := blk_new W0 (.cells #[.int .i64 s0.1, .int .i64 s0.2] 23) _ rfl
  go_wp2_with fail
  refine (HJ.out _).mono ?_
  rintro e w3 ⟨rfl, u3⟩
  have kt3 := u3.blk kt2
  have V3 := V.trans u3
  have f3 := frozB kt3
  obtain ⟨X, hX⟩ : ∃ Z, (w3.setCell ⟨p, 2, none⟩ (.int .i64 j1)).setCell ⟨p, 3, none⟩ (.int .i64 j2) = Z := ⟨_, rfl⟩
  have hwp : w.heap.size ≤ p := by omega
  have VX : Up w X := by rw [← hX]; exact (V3.set (p := ⟨p, 2, none⟩) hwp _).set (p := ⟨p, 3, none⟩) hwp _
  have ktX : mblk X p = some (.cells #[.int .i64 x.1, .int .i64 x.2, .int .i64 j1, .int .i64 j2] 145 (0, 0)) := by rw [← hX]; exact blk_put (blk_put kt3 2 _) 3 _
  obtain ⟨w9, hrun, hI9, hg9⟩ := HP.out X VX (j1, j2)
  have hrun' : (Instr.mapUpdate 139 (.map (some m)) (TwV x.1 x.2) (SpV j1 j2)).run Try.prog X = .ok () w9 := hrun
  have HF := Lib.hid (show T.Inn w9 m (N + 1) (T.lrn1 K x s) ∧ w.grownBy w9 (some m) from ⟨by rw [HV.out]; exact hI9, grown_trans (up_grown VX _) hg9⟩)
  clear hrun hI9 hg9 HP HI HV VX u3 V V3 ks kt2 q hp hW
  go_wp2_with fail
  go_end0
  exact ⟨rfl, HF.out⟩
theorem learn_any {w : World} {m : Nat} {K : T.Kn} {N : Nat} (h : T.Inn w m N K) (hN : N < 100000) {x s : Int × Int} (hx : T.in64 x) (hK : T.Bd 10000000 K) (hs : T.Bs 10000000 s) :
    Calls Try.prog 127 #[.map (some m), TiV x.1 x.2 s.1 s.2] w fun e w' => e = .returned (.tuple #[]) ∧ T.Inn w' m (N + 1) (T.lrn1 K x s) ∧ w.grownBy w' (some m) := by
  cases hk : K x with
  | none => exact learn_no h hN hx hk
  | some s0 => exact learn_yes h hN hx hk (hK x s0 hk) hs
theorem learnBoth_any {w : World} {m : Nat} {K : T.Kn} {N : Nat} (h : T.Inn w m N K) (hN : N < 90000) {x s : Int × Int} (hx : T.in64 x) (hK : T.Bd 10000000 K) (hs : T.Bs 10000000 s) :
    Calls Try.prog 114 #[.map (some m), TiV x.1 x.2 s.1 s.2] w fun e w' => e = .returned (.tuple #[]) ∧ T.Inn w' m (N + 2) (T.lrn K x s) ∧ w.grownBy w' (some m) := by
  have U := (Up.refl w).alloc (.cells #[.int .i64 x.1, .int .i64 x.2, .int .i64 s.1, .int .i64 s.2] 145)
  have kt := blk_new w (.cells #[.int .i64 x.1, .int .i64 x.2, .int .i64 s.1, .int .i64 s.2] 145) _ rfl
  have lm := h.lt
  have H1 := Lib.hid (learn_any (h.up U) (by omega) hx hK hs)
  have H2 := Lib.hid (fun w' (h' : T.Inn w' m (N + 1) (T.lrn1 K x s)) => learn_any h' (by omega) (x := T.swp x) ⟨hx.2, hx.1⟩ (T.lrn1_B hK hs) hs.trn)
  have HT := Lib.hid (fun w => tturned_any x.1 x.2 s.1 s.2 w hs.1.1 hs.1.2 hs.2.1 hs.2.2)
  clear h hN hx hK hs
  go_enter Try.func114, Try.ntmps114
  go_wp2_with fail
  refine H1.out.mono ?_
  rintro e w1 ⟨rfl, h1, g1⟩
  have kt1 := grown_blk g1 kt (by intro e; have := Option.some.inj e; omega)
  have G := grown_trans (up_grown U (some m)) g1
  clear H1 g1 kt U
  go_wp2_with fail
  refine (HT.out _).mono ?_
  rintro e w2 ⟨rfl, u2⟩
  have h2 := h1.up u2
  have G2 := grown_trans G (up_grown u2 (some m))
  clear h1 u2 kt1 G HT
  have H3 := Lib.hid (H2.out w2 h2)
  clear H2
  go_wp2_with fail
  refine H3.out.mono ?_
  rintro e w3 ⟨rfl, h3, g3⟩
  go_wp2
  go_end0
  exact ⟨rfl, h3, grown_trans G2 g3⟩

end Go.Proofs.Ytlpkheoljbdajaa
