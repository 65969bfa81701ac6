import Derived.Test.YtcmdaiklkdeanaaTeR
import Derived.Test.YtcmdaiklkdeanaaBsc
import Derived.Test.YtcmdaiklkdeanaaHeQ
/- Small facts that several layers of the laws share. -/
namespace Go.Proofs.Ytcmdaiklkdeanaa
open Go.RowKit

theorem T.has_none (c : Int) : T.has false false false false false c = false := by
  unfold T.has
  repeat' split
  all_goals rfl
theorem T.has_bit (s : Nat → Bool) {c : Int} (h0 : 0 ≤ c) (h5 : c < 5) : T.has (s 0) (s 1) (s 2) (s 3) (s 4) c = s c.toNat := by
  have : c = 0 ∨ c = 1 ∨ c = 2 ∨ c = 3 ∨ c = 4 := by omega
  rcases this with rfl | rfl | rfl | rfl | rfl <;> rfl
theorem T.has_true (s : Nat → Bool) : T.has (s 0) (s 1) (s 2) (s 3) (s 4) (-1) = false := rfl
theorem max_run {a b c : Int} (h : Max.max a b = c) (ts : Array TypeId) (t' : TypeId) (w : World) : (Builtin.max_ ts t' #[.int .i64 a, .int .i64 b]).run Try.prog w = .ok (.int .i64 c) w := by
  have e : (if b > a then b else a) = c := by split <;> omega
  rw [run_max_int2, e]
theorem min_run {a b c : Int} (h : Min.min a b = c) (ts : Array TypeId) (t' : TypeId) (w : World) : (Builtin.min_ ts t' #[.int .i64 a, .int .i64 b]).run Try.prog w = .ok (.int .i64 c) w := by
  have e : (if b < a then b else a) = c := by split <;> omega
  rw [run_min_int2, e]
theorem T.cell_lt {w : World} {a : Addr} {v : Value} (h : w.cell? a = some v) : a.block < w.heap.size := by
  obtain ⟨b, j, sp⟩ := a
  cases hb : w.heap[b]? with
  | none => simp [World.cell?, hb] at h
  | some o => exact (Array.getElem?_eq_some_iff.1 hb).1
theorem Up.cell2 {w w1 : World} (u : Up w w1) {b j : Nat} {v : Value} (h : w.cell? ⟨b, j, none⟩ = some v) : w1.cell? ⟨b, j, none⟩ = some v :=
  (u.facts.1 b j (T.cell_lt h)).trans h
section
variable {H : Nat} {rs : T.LR} {os : T.LO} {ps : T.LP} {m1 m2 : Int × Int} {l h e : Int}
theorem T.Tells.can (t : T.Tells H rs os ps m1 m2 l h e) : (e = 0 ∧ ∃ y, T.Tr H rs os ps y) ∨ (e = 22 ∧ l = 0 ∧ h = 0 ∧ ∀ y, ¬ T.Tr H rs os ps y) := by
  rcases t with ⟨a, _, ⟨y, hy, _⟩, _⟩ | a
  · exact .inl ⟨a, y, hy⟩
  · exact .inr a
end

end Go.Proofs.Ytcmdaiklkdeanaa

/- The contract of In. -/
namespace Go.Proofs.Ytcmdaiklkdeanaa
open Go.RowKit Go.Shelf
attribute [local go_sem] Oper.semAt_some
theorem T.bit_all : ∀ (s : Fin 32) (k : Fin 5), (bits BinOp.and IntKind.i64 (((s : Nat) : Int) / 2 ^ (k : Nat)) 1 == 1) = (s : Nat).testBit k := by decide +kernel
set_option maxRecDepth 100000 in
set_option maxHeartbeats 1000000 in
theorem B_In_any (s k : Nat) (hs : s < 32) (hk : k < 5) (w : World) : Calls Try.prog 66 #[.int .i64 s, .int .i64 k] w fun e w' => e = .returned (.bool (s.testBit k)) ∧ w = w' := by
  have e : (bits BinOp.and IntKind.i64 ((s : Int) / 2 ^ k) 1 == 1) = s.testBit k := T.bit_all ⟨s, hs⟩ ⟨k, hk⟩
  have HE := Lib.hid e
  have k0 : (0 : Int) ≤ k := by omega
  clear e
  go_enter Try.func66, Try.ntmps66
  go_wp2
  refine bodyPost_ret (v := .bool (bits BinOp.and IntKind.i64 ((s : Int) / 2 ^ k) 1 == 1)) (by simp [results, Try.results66, go_sem]) rfl ⟨by rw [HE.out], rfl⟩

end Go.Proofs.Ytcmdaiklkdeanaa

/- The steps of a quiet region, with their small conditions met by themselves. -/
namespace Go.Proofs.Ytcmdaiklkdeanaa
open Go.RowKit

section
variable {F : Fence} {n : Nat} {P : Program} {ops : Array Oper} {Q : Exit → Act → World → Prop} {md : Region.Mode} {S : World → Prop}
theorem T.qT {oi : Oper} {f m g : Nat} {listed : Array Bool} {a : Act} (i : Nat) (d : Option Tmp) (v : Value) (hi : ops[i]? = some oi) (hd : oi.dst = d) (hcl : Closed md ops listed)
    (hy : ∀ w, S w → T.qUp F n P S v ((execOp a.eval oi).run P w))
    (h : Closed md ops (listed.setIfInBounds i true) → T.anyQ F n P md ops S m (T.tail F n P md ops Q S m g) f (listed.setIfInBounds i true) (a.put d v))
    (hm : late md ops m = true := by kernel_rfl) (him : i < m := by decide)
    (hs : Region.noSelect ops = true := by kernel_rfl) (hf : Region.free md ops listed i = true := by kernel_rfl) (hr : (Region.ready md ops listed).contains i = true := by kernel_rfl)
    (hw : Region.wanted oi (yielded ops a.tmps) = true := by rfl) (ha : ∀ w f, oi.about P w a.eval = some f → F.fn f := by exact fun _ _ _ => trivial) :
    T.anyQ F n P md ops S m (T.tail F n P md ops Q S m g) (f + 1) listed a := T.qTake hi hd hm him hcl hs hf hr hw hy ha h
theorem T.qS {oi : Oper} {f m g : Nat} {listed : Array Bool} {a : Act} (i : Nat) (d : Option Tmp) (hi : ops[i]? = some oi) (hd : oi.dst = d) (hcl : Closed md ops listed)
    (h : Closed md ops (listed.setIfInBounds i true) → T.anyQ F n P md ops S m (T.tail F n P md ops Q S m g) f (listed.setIfInBounds i true) (a.put d undef))
    (hm : late md ops m = true := by kernel_rfl) (him : i < m := by decide)
    (hs : Region.noSelect ops = true := by kernel_rfl) (hf : Region.free md ops listed i = true := by kernel_rfl) (hr : (Region.ready md ops listed).contains i = true := by kernel_rfl)
    (hw : Region.wanted oi (yielded ops a.tmps) = false := by rfl) (ha : ∀ w f, oi.about P w a.eval = some f → F.fn f := by exact fun _ _ _ => trivial) :
    T.anyQ F n P md ops S m (T.tail F n P md ops Q S m g) (f + 1) listed a := T.qSkip hi hd hm him hcl hs hf hr hw ha h
end

end Go.Proofs.Ytcmdaiklkdeanaa
