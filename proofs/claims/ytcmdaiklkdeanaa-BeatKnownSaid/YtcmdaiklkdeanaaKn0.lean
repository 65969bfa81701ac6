import Derived.Deep.Cut
import Derived.Test.YtcmdaiklkdeanaaKnn
import Derived.Test.YtcmdaiklkdeanaaLws
import Derived.Test.YtcmdaiklkdeanaaHsI
import Derived.Test.YtcmdaiklkdeanaaHeQ
/- The law BeatKnown: its code's pieces, and what lies in memory. -/
namespace Go.Proofs.Ytcmdaiklkdeanaa
open Go.RowKit Go.Shelf
attribute [local go_sem] Oper.semAt_some
noncomputable def Kn.body : Code := (Try.f14.body).getD .skip
def Kn.rt : Nat → Code → Code
  | 0, c => c
  | n + 1, .seq _ b => Kn.rt n b
  | _, c => c
theorem kn_span {w : World} {g : Nat} {a b : Int} (k : mblk w g = some (.cells #[.int .i64 a, .int .i64 b] 34 (0, 0))) : Sps w (.slice (some ⟨g, 0, none⟩) 1 1) [(a, b)] := by
  refine ⟨⟨_, _, rfl, Nat.le_refl _, by simp, fun _ => ⟨_, 0, rfl, blk_lt k, fun j hj i hi => ?_⟩⟩⟩
  rw [cellB k]
  have p : j = 0 := by have : j < 1 := hj; omega
  have q : i = 0 ∨ i = 1 := by omega
  subst p
  rcases q with rfl | rfl <;> rfl
theorem kn_far3 {w : World} {g : Nat} (k : mblk w g = some (.cells #[.int .i64 0, .int .i64 0, .int .i64 100000, .int .i64 100000, .int .i64 0, .int .i64 0, .int .i64 100000, .int .i64 100000, .int .i64 0, .int .i64 0, .int .i64 1, .int .i64 1] 63 (0, 0))) : Ops w (.slice (some ⟨g, 0, none⟩) 3 3) T.osG := by
  refine ⟨⟨_, _, rfl, Nat.le_refl _, by decide, fun _ => ⟨_, 0, rfl, blk_lt k, fun j hj i hi => ?_⟩⟩⟩
  rw [cellB k]
  have p : j = 0 ∨ j = 1 ∨ j = 2 := by have : j < 3 := hj; omega
  have q : i = 0 ∨ i = 1 ∨ i = 2 ∨ i = 3 := by omega
  rcases p with rfl | rfl | rfl <;> rcases q with rfl | rfl | rfl | rfl <;> rfl
theorem kn_far2 {w : World} {g : Nat} (k : mblk w g = some (.cells #[.int .i64 0, .int .i64 0, .int .i64 100000, .int .i64 100000, .int .i64 0, .int .i64 0, .int .i64 100000, .int .i64 100000, .int .i64 0, .int .i64 0, .int .i64 1, .int .i64 1] 63 (0, 0))) : Ops w (.slice (some ⟨g, 0, none⟩) 2 3) T.osF := by
  refine ⟨⟨_, _, rfl, by decide, by decide, fun _ => ⟨_, 0, rfl, blk_lt k, fun j hj i hi => ?_⟩⟩⟩
  rw [cellB k]
  have p : j = 0 ∨ j = 1 := by have : j < 2 := hj; omega
  have q : i = 0 ∨ i = 1 ∨ i = 2 ∨ i = 3 := by omega
  rcases p with rfl | rfl <;> rcases q with rfl | rfl | rfl | rfl <;> rfl
def Kn.Bad (w : World) (q i : Nat) : Prop := ∃ (Hi : Int) (aR : Option Addr) (nR cR : Nat) (aO : Option Addr) (nO cO : Nat) (aP : Option Addr) (nP cP : Nat) (rs : T.LR) (os : T.LO) (ps : T.LP), (w.cell? ⟨q, i * 4, none⟩ = some (.int .i64 Hi) ∧ w.cell? ⟨q, i * 4 + 1, none⟩ = some (.slice aR nR cR) ∧ w.cell? ⟨q, i * 4 + 2, none⟩ = some (.slice aO nO cO) ∧ w.cell? ⟨q, i * 4 + 3, none⟩ = some (.slice aP nP cP)) ∧ Sps w (.slice aR nR cR) rs ∧ Ops w (.slice aO nO cO) os ∧ Prs w (.slice aP nP cP) ps ∧ T.valid Hi rs os ps = false
theorem kn_sps {w : World} {g : Nat} {a b c d e f : Int} (k : mblk w g = some (.cells #[.int .i64 a, .int .i64 b, .int .i64 c, .int .i64 d, .int .i64 e, .int .i64 f] 34 (0, 0))) : Sps w (.slice (some ⟨g, 0, none⟩) 3 3) [(a, b), (c, d), (e, f)] := by
  refine ⟨⟨_, _, rfl, Nat.le_refl _, by simp, fun _ => ⟨_, 0, rfl, blk_lt k, fun j hj i hi => ?_⟩⟩⟩
  rw [cellB k]
  have p : j = 0 ∨ j = 1 ∨ j = 2 := by have : j < 3 := hj; omega
  have q : i = 0 ∨ i = 1 := by omega
  rcases p with rfl | rfl | rfl <;> rcases q with rfl | rfl <;> rfl
theorem kn_ops {w : World} {g : Nat} {a b c d : Int} (k : mblk w g = some (.cells #[.int .i64 a, .int .i64 b, .int .i64 c, .int .i64 d] 63 (0, 0))) : Ops w (.slice (some ⟨g, 0, none⟩) 1 1) [(a, b, c, d)] := by
  refine ⟨⟨_, _, rfl, Nat.le_refl _, by simp, fun _ => ⟨_, 0, rfl, blk_lt k, fun j hj i hi => ?_⟩⟩⟩
  rw [cellB k]
  have p : j = 0 := by have : j < 1 := hj; omega
  have q : i = 0 ∨ i = 1 ∨ i = 2 ∨ i = 3 := by omega
  subst p
  rcases q with rfl | rfl | rfl | rfl <;> rfl
theorem kn_prs {w : World} {g : Nat} {x0 x1 x2 x3 x4 x5 x6 x7 x8 x9 x10 x11 x12 x13 x14 x15 x16 x17 x18 x19 : Int} (k : mblk w g = some (.cells #[.int .i64 x0, .int .i64 x1, .int .i64 x2, .int .i64 x3, .int .i64 x4, .int .i64 x5, .int .i64 x6, .int .i64 x7, .int .i64 x8, .int .i64 x9, .int .i64 x10, .int .i64 x11, .int .i64 x12, .int .i64 x13, .int .i64 x14, .int .i64 x15, .int .i64 x16, .int .i64 x17, .int .i64 x18, .int .i64 x19] 61 (0, 0))) : Prs w (.slice (some ⟨g, 0, none⟩) 4 4) [(x0, x1, x2, x3, x4), (x5, x6, x7, x8, x9), (x10, x11, x12, x13, x14), (x15, x16, x17, x18, x19)] := by
  refine ⟨⟨_, _, rfl, Nat.le_refl _, by simp, fun _ => ⟨_, 0, rfl, blk_lt k, fun j hj i hi => ?_⟩⟩⟩
  rw [cellB k]
  have p : j = 0 ∨ j = 1 ∨ j = 2 ∨ j = 3 := by have : j < 4 := hj; omega
  have q : i = 0 ∨ i = 1 ∨ i = 2 ∨ i = 3 ∨ i = 4 := by omega
  rcases p with rfl | rfl | rfl | rfl <;> rcases q with rfl | rfl | rfl | rfl | rfl <;> rfl
theorem kn_bad {W : World} {q r1 s1 t1 r2 s2 t2 r3 s3 t3 r4 s4 t4 r5 s5 t5 r6 s6 t6 r7 s7 t7 r8 s8 t8 r9 s9 t9 : Nat} (kq : mblk W q = some (.cells #[.int .i64 0, .slice none 0 0, .slice none 0 0, .slice none 0 0, .int .i64 13, .slice (some ⟨r1, 0, none⟩) 3 3, .slice (some ⟨s1, 0, none⟩) 1 1, .slice (some ⟨t1, 0, none⟩) 4 4, .int .i64 3, .slice (some ⟨r2, 0, none⟩) 3 3, .slice (some ⟨s2, 0, none⟩) 1 1, .slice (some ⟨t2, 0, none⟩) 4 4, .int .i64 3, .slice (some ⟨r3, 0, none⟩) 3 3, .slice (some ⟨s3, 0, none⟩) 1 1, .slice (some ⟨t3, 0, none⟩) 4 4, .int .i64 3, .slice (some ⟨r4, 0, none⟩) 3 3, .slice (some ⟨s4, 0, none⟩) 1 1, .slice (some ⟨t4, 0, none⟩) 4 4, .int .i64 3, .slice (some ⟨r5, 0, none⟩) 3 3, .slice (some ⟨s5, 0, none⟩) 1 1, .slice (some ⟨t5, 0, none⟩) 4 4, .int .i64 3, .slice (some ⟨r6, 0, none⟩) 3 3, .slice (some ⟨s6, 0, none⟩) 1 1, .slice (some ⟨t6, 0, none⟩) 4 4, .int .i64 3, .slice (some ⟨r7, 0, none⟩) 3 3, .slice (some ⟨s7, 0, none⟩) 1 1, .slice (some ⟨t7, 0, none⟩) 4 4, .int .i64 3, .slice (some ⟨r8, 0, none⟩) 3 3, .slice (some ⟨s8, 0, none⟩) 1 1, .slice (some ⟨t8, 0, none⟩) 4 4, .int .i64 3, .slice (some ⟨r9, 0, none⟩) 3 3, .slice (some ⟨s9, 0, none⟩) 1 1, .slice (some ⟨t9, 0, none⟩) 4 4] 26 (0, 0))) (hr1 : mblk W r1 = some (.cells #[.int .i64 (-2), .int .i64 3, .int .i64 0, .int .i64 1, .int .i64 (-10), .int .i64 10] 34 (0, 0))) (hs1 : mblk W s1 = some (.cells #[.int .i64 2, .int .i64 1, .int .i64 (-50), .int .i64 50] 63 (0, 0))) (ht1 : mblk W t1 = some (.cells #[.int .i64 0, .int .i64 0, .int .i64 (-1), .int .i64 100, .int .i64 104, .int .i64 1, .int .i64 0, .int .i64 1, .int .i64 40, .int .i64 44, .int .i64 3, .int .i64 1, .int .i64 (-1), .int .i64 60, .int .i64 61, .int .i64 3, .int .i64 2, .int .i64 1, .int .i64 5, .int .i64 5] 61 (0, 0))) (hr2 : mblk W r2 = some (.cells #[.int .i64 0, .int .i64 1001, .int .i64 0, .int .i64 1, .int .i64 (-10), .int .i64 10] 34 (0, 0))) (hs2 : mblk W s2 = some (.cells #[.int .i64 2, .int .i64 1, .int .i64 (-50), .int .i64 50] 63 (0, 0))) (ht2 : mblk W t2 = some (.cells #[.int .i64 0, .int .i64 0, .int .i64 (-1), .int .i64 100, .int .i64 104, .int .i64 1, .int .i64 0, .int .i64 1, .int .i64 40, .int .i64 44, .int .i64 3, .int .i64 1, .int .i64 (-1), .int .i64 60, .int .i64 61, .int .i64 3, .int .i64 2, .int .i64 1, .int .i64 5, .int .i64 5] 61 (0, 0))) (hr3 : mblk W r3 = some (.cells #[.int .i64 (-2), .int .i64 3, .int .i64 0, .int .i64 1, .int .i64 (-10), .int .i64 10] 34 (0, 0))) (hs3 : mblk W s3 = some (.cells #[.int .i64 3, .int .i64 1, .int .i64 (-50), .int .i64 50] 63 (0, 0))) (ht3 : mblk W t3 = some (.cells #[.int .i64 0, .int .i64 0, .int .i64 (-1), .int .i64 100, .int .i64 104, .int .i64 1, .int .i64 0, .int .i64 1, .int .i64 40, .int .i64 44, .int .i64 3, .int .i64 1, .int .i64 (-1), .int .i64 60, .int .i64 61, .int .i64 3, .int .i64 2, .int .i64 1, .int .i64 5, .int .i64 5] 61 (0, 0))) (hr4 : mblk W r4 = some (.cells #[.int .i64 (-2), .int .i64 3, .int .i64 0, .int .i64 1, .int .i64 (-10), .int .i64 10] 34 (0, 0))) (hs4 : mblk W s4 = some (.cells #[.int .i64 2, .int .i64 3, .int .i64 (-50), .int .i64 50] 63 (0, 0))) (ht4 : mblk W t4 = some (.cells #[.int .i64 0, .int .i64 0, .int .i64 (-1), .int .i64 100, .int .i64 104, .int .i64 1, .int .i64 0, .int .i64 1, .int .i64 40, .int .i64 44, .int .i64 3, .int .i64 1, .int .i64 (-1), .int .i64 60, .int .i64 61, .int .i64 3, .int .i64 2, .int .i64 1, .int .i64 5, .int .i64 5] 61 (0, 0))) (hr5 : mblk W r5 = some (.cells #[.int .i64 (-2), .int .i64 3, .int .i64 0, .int .i64 1, .int .i64 (-10), .int .i64 10] 34 (0, 0))) (hs5 : mblk W s5 = some (.cells #[.int .i64 2, .int .i64 1, .int .i64 1, .int .i64 0] 63 (0, 0))) (ht5 : mblk W t5 = some (.cells #[.int .i64 0, .int .i64 0, .int .i64 (-1), .int .i64 100, .int .i64 104, .int .i64 1, .int .i64 0, .int .i64 1, .int .i64 40, .int .i64 44, .int .i64 3, .int .i64 1, .int .i64 (-1), .int .i64 60, .int .i64 61, .int .i64 3, .int .i64 2, .int .i64 1, .int .i64 5, .int .i64 5] 61 (0, 0))) (hr6 : mblk W r6 = some (.cells #[.int .i64 (-2), .int .i64 3, .int .i64 0, .int .i64 1, .int .i64 (-10), .int .i64 10] 34 (0, 0))) (hs6 : mblk W s6 = some (.cells #[.int .i64 2, .int .i64 1, .int .i64 (-50), .int .i64 50] 63 (0, 0))) (ht6 : mblk W t6 = some (.cells #[.int .i64 4, .int .i64 0, .int .i64 (-1), .int .i64 100, .int .i64 104, .int .i64 1, .int .i64 0, .int .i64 1, .int .i64 40, .int .i64 44, .int .i64 3, .int .i64 1, .int .i64 (-1), .int .i64 60, .int .i64 61, .int .i64 3, .int .i64 2, .int .i64 1, .int .i64 5, .int .i64 5] 61 (0, 0))) (hr7 : mblk W r7 = some (.cells #[.int .i64 (-2), .int .i64 3, .int .i64 0, .int .i64 1, .int .i64 (-10), .int .i64 10] 34 (0, 0))) (hs7 : mblk W s7 = some (.cells #[.int .i64 2, .int .i64 1, .int .i64 (-50), .int .i64 50] 63 (0, 0))) (ht7 : mblk W t7 = some (.cells #[.int .i64 0, .int .i64 0, .int .i64 (-1), .int .i64 100, .int .i64 104, .int .i64 1, .int .i64 0, .int .i64 0, .int .i64 40, .int .i64 44, .int .i64 3, .int .i64 1, .int .i64 (-1), .int .i64 60, .int .i64 61, .int .i64 3, .int .i64 2, .int .i64 1, .int .i64 5, .int .i64 5] 61 (0, 0))) (hr8 : mblk W r8 = some (.cells #[.int .i64 (-2), .int .i64 3, .int .i64 0, .int .i64 1, .int .i64 (-10), .int .i64 10] 34 (0, 0))) (hs8 : mblk W s8 = some (.cells #[.int .i64 2, .int .i64 1, .int .i64 (-50), .int .i64 50] 63 (0, 0))) (ht8 : mblk W t8 = some (.cells #[.int .i64 0, .int .i64 0, .int .i64 (-1), .int .i64 100, .int .i64 104, .int .i64 1, .int .i64 (-1), .int .i64 1, .int .i64 40, .int .i64 44, .int .i64 3, .int .i64 1, .int .i64 (-1), .int .i64 60, .int .i64 61, .int .i64 3, .int .i64 2, .int .i64 1, .int .i64 5, .int .i64 5] 61 (0, 0))) (hr9 : mblk W r9 = some (.cells #[.int .i64 (-2), .int .i64 3, .int .i64 0, .int .i64 1, .int .i64 (-10), .int .i64 10] 34 (0, 0))) (hs9 : mblk W s9 = some (.cells #[.int .i64 2, .int .i64 1, .int .i64 (-50), .int .i64 50] 63 (0, 0))) (ht9 : mblk W t9 = some (.cells #[.int .i64 0, .int .i64 0, .int .i64 (-1), .int .i64 100, .int .i64 104, .int .i64 1, .int .i64 0, .int .i64 1, .int .i64 40, .int .i64 44, .int .i64 3, .int .i64 1, .int .i64 (-1), .int .i64 0, .int .i64 200001, .int .i64 3, .int .i64 2, .int .i64 1, .int .i64 5, .int .i64 5] 61 (0, 0))) : ∀ i, i < 10 → Kn.Bad W q i := fun i hi => by
  have : i = 0 ∨ i = 1 ∨ i = 2 ∨ i = 3 ∨ i = 4 ∨ i = 5 ∨ i = 6 ∨ i = 7 ∨ i = 8 ∨ i = 9 := by omega
  rcases this with rfl | rfl | rfl | rfl | rfl | rfl | rfl | rfl | rfl | rfl
  · exact ⟨0, none, 0, 0, none, 0, 0, none, 0, 0, [], [], [], ⟨by rw [cellB kq]; rfl, by rw [cellB kq]; rfl, by rw [cellB kq]; rfl, by rw [cellB kq]; rfl⟩, Tab.nil W, Tab.nil W, Tab.nil W, T.kbad_no (k := 0) (by decide)⟩
  · exact ⟨13, _, 3, 3, _, 1, 1, _, 4, 4, _, _, _, ⟨by rw [cellB kq]; rfl, by rw [cellB kq]; rfl, by rw [cellB kq]; rfl, by rw [cellB kq]; rfl⟩, kn_sps hr1, kn_ops hs1, kn_prs ht1, T.kbad_no (k := 1) (by decide)⟩
  · exact ⟨3, _, 3, 3, _, 1, 1, _, 4, 4, _, _, _, ⟨by rw [cellB kq]; rfl, by rw [cellB kq]; rfl, by rw [cellB kq]; rfl, by rw [cellB kq]; rfl⟩, kn_sps hr2, kn_ops hs2, kn_prs ht2, T.kbad_no (k := 2) (by decide)⟩
  · exact ⟨3, _, 3, 3, _, 1, 1, _, 4, 4, _, _, _, ⟨by rw [cellB kq]; rfl, by rw [cellB kq]; rfl, by rw [cellB kq]; rfl, by rw [cellB kq]; rfl⟩, kn_sps hr3, kn_ops hs3, kn_prs ht3, T.kbad_no (k := 3) (by decide)⟩
  · exact ⟨3, _, 3, 3, _, 1, 1, _, 4, 4, _, _, _, ⟨by rw [cellB kq]; rfl, by rw [cellB kq]; rfl, by rw [cellB kq]; rfl, by rw [cellB kq]; rfl⟩, kn_sps hr4, kn_ops hs4, kn_prs ht4, T.kbad_no (k := 4) (by decide)⟩
  · exact ⟨3, _, 3, 3, _, 1, 1, _, 4, 4, _, _, _, ⟨by rw [cellB kq]; rfl, by rw [cellB kq]; rfl, by rw [cellB kq]; rfl, by rw [cellB kq]; rfl⟩, kn_sps hr5, kn_ops hs5, kn_prs ht5, T.kbad_no (k := 5) (by decide)⟩
  · exact ⟨3, _, 3, 3, _, 1, 1, _, 4, 4, _, _, _, ⟨by rw [cellB kq]; rfl, by rw [cellB kq]; rfl, by rw [cellB kq]; rfl, by rw [cellB kq]; rfl⟩, kn_sps hr6, kn_ops hs6, kn_prs ht6, T.kbad_no (k := 6) (by decide)⟩
  · exact ⟨3, _, 3, 3, _, 1, 1, _, 4, 4, _, _, _, ⟨by rw [cellB kq]; rfl, by rw [cellB kq]; rfl, by rw [cellB kq]; rfl, by rw [cellB kq]; rfl⟩, kn_sps hr7, kn_ops hs7, kn_prs ht7, T.kbad_no (k := 7) (by decide)⟩
  · exact ⟨3, _, 3, 3, _, 1, 1, _, 4, 4, _, _, _, ⟨by rw [cellB kq]; rfl, by rw [cellB kq]; rfl, by rw [cellB kq]; rfl, by rw [cellB kq]; rfl⟩, kn_sps hr8, kn_ops hs8, kn_prs ht8, T.kbad_no (k := 8) (by decide)⟩
  · exact ⟨3, _, 3, 3, _, 1, 1, _, 4, 4, _, _, _, ⟨by rw [cellB kq]; rfl, by rw [cellB kq]; rfl, by rw [cellB kq]; rfl, by rw [cellB kq]; rfl⟩, kn_sps hr9, kn_ops hs9, kn_prs ht9, T.kbad_no (k := 9) (by decide)⟩

end Go.Proofs.Ytcmdaiklkdeanaa
