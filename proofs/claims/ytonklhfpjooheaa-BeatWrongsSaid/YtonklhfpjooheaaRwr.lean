import Derived.Test.YtonklhfpjooheaaRmo
import Derived.Test.YtonklhfpjooheaaRck
import Derived.Test.YtonklhfpjooheaaRwm
import Derived.Test.YtonklhfpjooheaaHsI
import Derived.Test.YtonklhfpjooheaaHeQ
/- The contract of the reference's Wrong. -/
namespace Go.Proofs.Ytonklhfpjooheaa
open Go.RowKit Go.Shelf
attribute [local go_sem] Oper.semAt_some

/-- what is held in memory: nothing yet, or a list -/
def T.rwB (w : World) (v : Value) (f : Bool) (l : List Int) : Prop := (f = false ∧ v = .slice none 0 0) ∨ (f = true ∧ (∃ a c, v = .slice a l.length c) ∧ Ints w v l)
theorem T.shl_rw : ∀ n : Nat, n ≤ 5 → IntKind.i64.wrap (2 ^ n) = 2 ^ n := by decide
section
variable {H : Nat} {Hi : Int} {aR aO aP : Option Addr} {nR cR nO cO nP cP : Nat} {rs : T.LR} {os : T.LO} {ps : T.LP}
set_option maxRecDepth 100000 in
set_option maxHeartbeats 1000000 in
theorem r_Wrong_bad {w : World} (I : Sps w (.slice aR nR cR) rs) (IO : Ops w (.slice aO nO cO) os) (IP : Prs w (.slice aP nP cP) ps) (hv : T.valid Hi rs os ps = false) :
    Calls Try.prog 28 #[ClV Hi (.slice aR nR cR) (.slice aO nO cO) (.slice aP nP cP)] w fun e w' => e = .returned (.tuple #[.slice none 0 0, .int .i64 20]) ∧ Up w w' := by
  have HC := Lib.hid (fun w' (u : Up w w') => show Calls Try.prog 18 #[ClV Hi (.slice aR nR cR) (.slice aO nO cO) (.slice aP nP cP)] w' fun e w'' => e = .returned (.int .i64 20) ∧ Up w' w'' by have := r_Check_any (Hi := Hi) (I.up u) (IO.up u) (IP.up u); rwa [if_pos hv] at this)
  have U := (Up.refl w).alloc (.cells #[.int .i64 Hi, .slice aR nR cR, .slice aO nO cO, .slice aP nP cP] 26)
  clear I IO IP hv
  go_enter Try.func28, Try.ntmps28
  go_wp2_with fail
  refine (HC.out _ U).mono ?_
  rintro e x1 ⟨rfl, u⟩
  have HU := Lib.hid (U.trans u)
  clear U u HC
  go_wp2
  go_ret2
  exact ⟨rfl, HU.out⟩
set_option maxRecDepth 100000 in
set_option maxHeartbeats 8000000 in
set_option linter.unusedSimpArgs false in
theorem r_Wrong_ok {w : World} (G : T.Good H rs os ps) (I : Sps w (.slice aR nR cR) rs) (IO : Ops w (.slice aO nO cO) os) (IP : Prs w (.slice aP nP cP) ps) :
    Calls Try.prog 28 #[ClV H (.slice aR nR cR) (.slice aO nO cO) (.slice aP nP cP)] w fun e w' => (∃ (v : Value) (n : Int), e = .returned (.tuple #[v, .int .i64 n]) ∧ ((∃ s, T.few (T.canP rs.length H rs os ps) rs.length 0 = some s ∧ Ints w' v (T.lst s 5) ∧ n = 0) ∨ (T.few (T.canP rs.length H rs os ps) rs.length 0 = none ∧ v = .slice none 0 0 ∧ n = 22))) ∧ Up w w' := by
  have hn := I.len
  subst hn
  obtain ⟨zs, Z, hfew⟩ := T.few_z G
  have q4 := G.r2
  have hmx : Try.prog.follows .mixedOrders = true := by kernel_rfl
  have HC := Lib.hid (fun w' (u : Up w w') => show Calls Try.prog 18 #[ClV (H : Int) (.slice aR rs.length cR) (.slice aO nO cO) (.slice aP nP cP)] w' fun e w'' => e = .returned (.int .i64 0) ∧ Up w' w'' by have := r_Check_any (Hi := (H : Int)) (I.up u) (IO.up u) (IP.up u); rwa [if_neg (by rw [T.valid_good.2 G]; decide)] at this)
  have HM := Lib.hid (fun w' (u : Up w w') (z : Nat) (hz : z < 32) => show Calls Try.prog 61 #[ClV H (.slice aR rs.length cR) (.slice aO nO cO) (.slice aP nP cP), .int .i64 (z : Int)] w' fun e w'' => (∃ v, e = .returned (.tuple #[v, .bool (T.zc H rs os ps z)])) ∧ Up w' w'' from (r_most_any G (I.up u) (IO.up u) (IP.up u) hz).mono (by
    rintro e x ⟨h, u'⟩
    refine ⟨?_, u'⟩
    rcases h with ⟨g, N, rw, M, _, rfl, _, hm⟩ | ⟨rfl, hno⟩
    · obtain ⟨y, hy, _⟩ := (hm (-1, 0) (-1, 0) T.mom_0 T.mom_0).2
      rw [(T.zc_iff G).2 ⟨y, hy⟩]
      exact ⟨_, rfl⟩
    · have e : T.zc H rs os ps z = false := by
        rw [← Bool.not_eq_true]
        intro q
        obtain ⟨y, hy⟩ := (T.zc_iff G).1 q
        exact hno y hy
      rw [e]
      exact ⟨_, rfl⟩))
  obtain ⟨P, hP⟩ : ∃ P, T.zc H rs os ps = P := ⟨_, rfl⟩
  rw [hP] at HM Z hfew
  have h2n : 0 < 2 ^ rs.length ∧ 2 ^ rs.length ≤ 32 := ⟨Nat.pow_pos (by decide), Nat.le_trans (Nat.pow_le_pow_right (n := 2) (by decide) q4) (by decide)⟩
  have HZ := Lib.hid Z
  have HF := Lib.hid hfew
  have wz : IntKind.i64.wrap (2 ^ rs.length) = 2 ^ rs.length := T.shl_rw _ (by omega)
  obtain ⟨two, htwo⟩ : ∃ x : Nat, 2 ^ rs.length = x := ⟨_, rfl⟩
  have etwo : (2 : Int) ^ rs.length = (two : Int) := by rw [← htwo]; simp
  have HT := Lib.hid htwo
  rw [htwo] at h2n
  have wt : IntKind.i64.wrap (two : Int) = (two : Int) := IntWalk.i64_in _ (by omega)
  clear I IO IP Z hfew G hP htwo
  go_enter Try.func28, Try.ntmps28
  obtain ⟨q0, e0⟩ : ∃ x, w.heap.size = x := ⟨_, rfl⟩
  have U := (Up.refl w).alloc (.cells #[.int .i64 H, .slice aR rs.length cR, .slice aO nO cO, .slice aP nP cP] 26)
  have kC := blk_new w (.cells #[.int .i64 H, .slice aR rs.length cR, .slice aO nO cO, .slice aP nP cP] 26) q0 e0.symm
  go_wp2_with fail
  refine (HC.out _ U).mono ?_
  rintro e x1 ⟨rfl, u2⟩
  replace U := U.trans u2
  replace kC := u2.blk kC
  clear u2 HC
  go_wp2_with fail
  go_loopw [5, 6, 7] (fun b f i wr => ∃ (z t0 : Nat) (fb : Bool), z ≤ two ∧ f = .bool fb ∧ i = .int .i64 z ∧ Up w wr ∧ mblk wr q0 = some (.cells #[.int .i64 H, .slice aR rs.length cR, .slice aO nO cO, .slice aP nP cP] 26 (0, 0)) ∧ Hid (T.rwI P z zs fb t0) ∧ Hid (T.rwB wr b fb (T.zl rs.length t0))) (fun _ _ i _ => two - (intOf i).toNat)
  case atStart => exact ⟨0, 0, false, Nat.zero_le _, rfl, rfl, U, kC, Lib.hid (.inl ⟨rfl, fun t ht => absurd ht (Nat.not_lt_zero t)⟩), Lib.hid (.inl ⟨rfl, rfl⟩)⟩
  case round =>
    clear U kC
    obtain ⟨z, t0, fb, hz, rfl, rfl, U, kC, HR, HB⟩ := hrel
    by_cases hlt : z < two
    · skip
      have dz : decide ((z : Int) < (two : Int)) = true := decide_eq_true (by omega)
      have ilt : (z : Int) < (two : Int) := by omega
      have ew : IntKind.i64.wrap ((z : Int) + 1) = (z : Int) + 1 := IntWalk.i64_in _ (by omega)
      have HL := Lib.hid (fun w => B_List_any z rs.length (by omega) q4 w)
      have Uz := Up.refl wr
      go_wp2_with fail
      refine (HL.out _).mono ?_
      rintro e x21 ⟨⟨vl, rfl, IL0⟩, u22⟩
      replace U := U.trans u22
      replace kC := u22.blk kC
      replace Uz := Uz.trans u22
      clear u22 HL
      have IL : Ints x21 vl (T.zl rs.length z) := IL0
      clear IL0
      obtain ⟨al, cl, rfl, _, _, _⟩ := IL.is
      have hz2 : z < 2 ^ rs.length := by rw [HT.out]; exact hlt
      obtain ⟨n2, hn2⟩ : ∃ x, (T.zl rs.length z).length = x := ⟨_, rfl⟩
      have HIL := Lib.hid (fun w' (u : Up x21 w') => IL.up u)
      rw [hn2] at HIL ⊢
      have HN2 := Lib.hid hn2
      have HLT := Lib.hid hlt
      clear IL hn2
      cases fb with
      | false =>
        obtain rfl : u5 = .slice none 0 0 := by
          rcases HB.out with ⟨_, a⟩ | ⟨a, _⟩
          · exact a
          · cases a
        have Ux := Up.refl x21
        cases hp : P z with
        | false =>
          have HMz := Lib.hid (fun w' (u : Up w w') => show Calls Try.prog 61 #[ClV H (.slice aR rs.length cR) (.slice aO nO cO) (.slice aP nP cP), .int .i64 (z : Int)] w' fun e w'' => (∃ v, e = .returned (.tuple #[v, .bool false])) ∧ Up w' w'' by have := HM.out w' u z (by omega); rwa [hp] at this)
          go_wp2_with fail
          refine (HMz.out _ U).mono ?_
          rintro e x151 ⟨⟨vm, rfl⟩, u152⟩
          replace U := U.trans u152
          replace kC := u152.blk kC
          replace Ux := Ux.trans u152
          clear u152 HMz
          have HR2 := Lib.hid (show T.rwI P (z + 1) zs false t0 from HR.out.no hp)
          have HB2 := Lib.hid (show (T.rwB x151 (Value.slice none 0 0) false (T.zl rs.length t0)) from .inl ⟨rfl, rfl⟩)
          clear HR HB
          go_wp2_with fail
          go_roundw
          case rel => exact ⟨z + 1, t0, false, by omega, rfl, by go_num, U, kC, HR2, HB2⟩
          case measure => (simp only [intOf]; omega)
        | true =>
          have HMz := Lib.hid (fun w' (u : Up w w') => show Calls Try.prog 61 #[ClV H (.slice aR rs.length cR) (.slice aO nO cO) (.slice aP nP cP), .int .i64 (z : Int)] w' fun e w'' => (∃ v, e = .returned (.tuple #[v, .bool true])) ∧ Up w' w'' by have := HM.out w' u z (by omega); rwa [hp] at this)
          go_wp2_with fail
          refine (HMz.out _ U).mono ?_
          rintro e x201 ⟨⟨vm, rfl⟩, u202⟩
          replace U := U.trans u202
          replace kC := u202.blk kC
          replace Ux := Ux.trans u202
          clear u202 HMz
          have HR2 := Lib.hid (show T.rwI P (z + 1) zs true z from HR.out.one HZ.out hp)
          have HB2 := Lib.hid (show (T.rwB x201 (Value.slice al n2 cl) true (T.zl rs.length z)) from .inr ⟨rfl, ⟨al, cl, by rw [HN2.out]⟩, HIL.out _ Ux⟩)
          clear HR HB
          go_wp2_with fail
          go_roundw
          case rel => exact ⟨z + 1, z, true, by omega, rfl, by go_num, U, kC, HR2, HB2⟩
          case measure => (simp only [intOf]; omega)
      | true =>
        obtain ⟨⟨ab, cb, rfl⟩, IB⟩ : (∃ a c, u5 = .slice a (T.zl rs.length t0).length c) ∧ Ints wr u5 (T.zl rs.length t0) := by
          rcases HB.out with ⟨a, _⟩ | ⟨_, a⟩
          · cases a
          · exact a
        have Ux := Up.refl x21
        have HIB := Lib.hid (fun w' (u : Up wr w') => IB.up u)
        obtain ⟨n1, hn1⟩ : ∃ x, (T.zl rs.length t0).length = x := ⟨_, rfl⟩
        rw [hn1] at HIB HB ⊢
        have HN1 := Lib.hid hn1
        clear IB hn1
        rcases Nat.lt_trichotomy n2 n1 with c | c | c
        · skip
          have d1 : decide ((n2 : Int) > (n1 : Int)) = false := decide_eq_false (by omega)
          have d2 : ((n2 : Int) == (n1 : Int)) = false := by rw [beq_eq_false_iff_ne]; omega
          have d1' : ¬ n1 < n2 := by omega
          have d2' : ¬ n2 = n1 := by omega
          cases hp : P z with
          | false =>
            have HMz := Lib.hid (fun w' (u : Up w w') => show Calls Try.prog 61 #[ClV H (.slice aR rs.length cR) (.slice aO nO cO) (.slice aP nP cP), .int .i64 (z : Int)] w' fun e w'' => (∃ v, e = .returned (.tuple #[v, .bool false])) ∧ Up w' w'' by have := HM.out w' u z (by omega); rwa [hp] at this)
            go_wp2_with fail
            refine (HMz.out _ U).mono ?_
            rintro e x401 ⟨⟨vm, rfl⟩, u402⟩
            replace U := U.trans u402
            replace kC := u402.blk kC
            replace Ux := Ux.trans u402
            replace Uz := Uz.trans u402
            clear u402 HMz
            have HR2 := Lib.hid (show T.rwI P (z + 1) zs true t0 from HR.out.out HZ.out hp)
            have HB2 := Lib.hid (show (T.rwB x401 (Value.slice ab n1 cb) true (T.zl rs.length t0)) from .inr ⟨rfl, ⟨ab, cb, by rw [HN1.out]⟩, HIB.out _ Uz⟩)
            clear HR HB
            go_wp2_with fail
            go_roundw
            case rel => exact ⟨z + 1, t0, true, by omega, rfl, by go_num, U, kC, HR2, HB2⟩
            case measure => (simp only [intOf]; omega)
          | true =>
            have HMz := Lib.hid (fun w' (u : Up w w') => show Calls Try.prog 61 #[ClV H (.slice aR rs.length cR) (.slice aO nO cO) (.slice aP nP cP), .int .i64 (z : Int)] w' fun e w'' => (∃ v, e = .returned (.tuple #[v, .bool true])) ∧ Up w' w'' by have := HM.out w' u z (by omega); rwa [hp] at this)
            go_wp2_with fail
            refine (HMz.out _ U).mono ?_
            rintro e x461 ⟨⟨vm, rfl⟩, u462⟩
            replace U := U.trans u462
            replace kC := u462.blk kC
            replace Ux := Ux.trans u462
            replace Uz := Uz.trans u462
            clear u462 HMz
            have HR2 := Lib.hid (show T.rwI P (z + 1) zs true z from HR.out.put HZ.out hz2 hp (.inl (by rw [HN1.out, HN2.out]; exact c)))
            have HB2 := Lib.hid (show (T.rwB x461 (Value.slice al n2 cl) true (T.zl rs.length z)) from .inr ⟨rfl, ⟨al, cl, by rw [HN2.out]⟩, HIL.out _ Ux⟩)
            clear HR HB
            go_wp2_with fail
            go_roundw
            case rel => exact ⟨z + 1, z, true, by omega, rfl, by go_num, U, kC, HR2, HB2⟩
            case measure => (simp only [intOf]; omega)
        · skip
          subst c
          have d1 : decide ((n2 : Int) > (n2 : Int)) = false := decide_eq_false (by omega)
          have d1' : ¬ n2 < n2 := by omega
          have d2 : ((n2 : Int) == (n2 : Int)) = true := by rw [beq_iff_eq]
          have HA := Lib.hid (fun w' (u : Up x21 w') => B_Ahead_any (HIL.out w' u) (HIB.out w' (Uz.trans u)))
          cases ha : T.ahd (T.zl rs.length z) (T.zl rs.length t0) with
          | false =>
            rw [ha] at HA
            go_wp2_with fail
            refine (HA.out _ Ux).mono ?_
            rintro e x521 ⟨rfl, u522⟩
            replace U := U.trans u522
            replace kC := u522.blk kC
            replace Ux := Ux.trans u522
            replace Uz := Uz.trans u522
            clear u522 HA
            have HR2 := Lib.hid (show T.rwI P (z + 1) zs true t0 from HR.out.skip HZ.out hz2 (.inr ⟨by rw [HN1.out, HN2.out], ha⟩))
            have HB2 := Lib.hid (show (T.rwB x521 (Value.slice ab n2 cb) true (T.zl rs.length t0)) from .inr ⟨rfl, ⟨ab, cb, by rw [HN1.out]⟩, HIB.out _ Uz⟩)
            clear HR HB
            go_wp2_with fail
            go_roundw
            case rel => exact ⟨z + 1, t0, true, by omega, rfl, by go_num, U, kC, HR2, HB2⟩
            case measure => (simp only [intOf]; omega)
          | true =>
            rw [ha] at HA
            cases hp : P z with
            | false =>
              have HMz := Lib.hid (fun w' (u : Up w w') => show Calls Try.prog 61 #[ClV H (.slice aR rs.length cR) (.slice aO nO cO) (.slice aP nP cP), .int .i64 (z : Int)] w' fun e w'' => (∃ v, e = .returned (.tuple #[v, .bool false])) ∧ Up w' w'' by have := HM.out w' u z (by omega); rwa [hp] at this)
              go_wp2_with fail
              refine (HA.out _ Ux).mono ?_
              rintro e x601 ⟨rfl, u602⟩
              replace U := U.trans u602
              replace kC := u602.blk kC
              replace Ux := Ux.trans u602
              replace Uz := Uz.trans u602
              clear u602 
              go_wp2_with fail
              refine (HMz.out _ U).mono ?_
              rintro e x603 ⟨⟨vm, rfl⟩, u604⟩
              replace U := U.trans u604
              replace kC := u604.blk kC
              replace Ux := Ux.trans u604
              replace Uz := Uz.trans u604
              clear u604 HMz
              have HR2 := Lib.hid (show T.rwI P (z + 1) zs true t0 from HR.out.out HZ.out hp)
              have HB2 := Lib.hid (show (T.rwB x603 (Value.slice ab n2 cb) true (T.zl rs.length t0)) from .inr ⟨rfl, ⟨ab, cb, by rw [HN1.out]⟩, HIB.out _ Uz⟩)
              clear HR HB
              go_wp2_with fail
              go_roundw
              case rel => exact ⟨z + 1, t0, true, by omega, rfl, by go_num, U, kC, HR2, HB2⟩
              case measure => (simp only [intOf]; omega)
            | true =>
              have HMz := Lib.hid (fun w' (u : Up w w') => show Calls Try.prog 61 #[ClV H (.slice aR rs.length cR) (.slice aO nO cO) (.slice aP nP cP), .int .i64 (z : Int)] w' fun e w'' => (∃ v, e = .returned (.tuple #[v, .bool true])) ∧ Up w' w'' by have := HM.out w' u z (by omega); rwa [hp] at this)
              go_wp2_with fail
              refine (HA.out _ Ux).mono ?_
              rintro e x661 ⟨rfl, u662⟩
              replace U := U.trans u662
              replace kC := u662.blk kC
              replace Ux := Ux.trans u662
              replace Uz := Uz.trans u662
              clear u662 
              go_wp2_with fail
              refine (HMz.out _ U).mono ?_
              rintro e x663 ⟨⟨vm, rfl⟩, u664⟩
              replace U := U.trans u664
              replace kC := u664.blk kC
              replace Ux := Ux.trans u664
              replace Uz := Uz.trans u664
              clear u664 HMz
              have HR2 := Lib.hid (show T.rwI P (z + 1) zs true z from HR.out.put HZ.out hz2 hp (.inr ⟨by rw [HN1.out, HN2.out], ha⟩))
              have HB2 := Lib.hid (show (T.rwB x663 (Value.slice al n2 cl) true (T.zl rs.length z)) from .inr ⟨rfl, ⟨al, cl, by rw [HN2.out]⟩, HIL.out _ Ux⟩)
              clear HR HB
              go_wp2_with fail
              go_roundw
              case rel => exact ⟨z + 1, z, true, by omega, rfl, by go_num, U, kC, HR2, HB2⟩
              case measure => (simp only [intOf]; omega)
        · skip
          have d1 : decide ((n2 : Int) > (n1 : Int)) = true := decide_eq_true (by omega)
          have d1' : n1 < n2 := c
          have HR2 := Lib.hid (show T.rwI P (z + 1) zs true t0 from HR.out.skip HZ.out hz2 (.inl (by rw [HN1.out, HN2.out]; exact c)))
          have HB2 := Lib.hid (show (T.rwB x21 (Value.slice ab n1 cb) true (T.zl rs.length t0)) from .inr ⟨rfl, ⟨ab, cb, by rw [HN1.out]⟩, HIB.out _ Uz⟩)
          clear HR HB
          go_wp2_with fail
          go_roundw
          case rel => exact ⟨z + 1, t0, true, by omega, rfl, by go_num, U, kC, HR2, HB2⟩
          case measure => (simp only [intOf]; omega)
    · skip
      obtain rfl : z = two := by omega
      have dz : decide ((z : Int) < (z : Int)) = false := decide_eq_false (by omega)
      have HFF := Lib.hid HF.out
      cases fb with
      | false =>
        obtain rfl : u5 = .slice none 0 0 := by
          rcases HB.out with ⟨_, a⟩ | ⟨a, _⟩
          · exact a
          · cases a
        have HE := Lib.hid (show T.few (T.canP rs.length H rs os ps) rs.length 0 = none from by
          rcases HR.out with ⟨_, h⟩ | ⟨h, _⟩
          · rcases HF.out with ⟨_, a, _⟩ | ⟨s, a, b, _⟩
            · exact a
            · have := (HZ.out s a).1
              rw [h s (by rw [← HT.out]; exact b)] at this
              cases this
          · cases h)
        go_wp2
        go_ret2
        exact ⟨⟨_, _, rfl, .inr ⟨HE.out, rfl, rfl⟩⟩, U⟩
      | true =>
        have HE := Lib.hid (show ∃ s, T.few (T.canP rs.length H rs os ps) rs.length 0 = some s ∧ Ints wr u5 (T.lst s 5) from by
          rcases HR.out with ⟨h, _⟩ | ⟨_, h1, h2, h3⟩
          · cases h
          · rcases HB.out with ⟨h, _⟩ | ⟨_, _, IB⟩
            · cases h
            · rcases HF.out with ⟨_, _, a⟩ | ⟨s, a, hs, f, g⟩
              · rw [a t0 (by rw [HT.out]; exact h1)] at h2
                cases h2
              · rw [h3 s a (by rw [← HT.out]; exact hs)] at IB
                exact ⟨_, f, by rw [g]; exact IB⟩)
        go_wp2
        go_ret2
        obtain ⟨s, f, g⟩ := HE.out
        exact ⟨⟨_, _, rfl, .inl ⟨s, f, g, rfl⟩⟩, U⟩
end

end Go.Proofs.Ytonklhfpjooheaa
