import Derived.Test.YtonklhfpjooheaaBsc
import Derived.Test.YtonklhfpjooheaaTeR
import Derived.Test.YtonklhfpjooheaaHeQ
/- The contract of the reference's Check. -/
namespace Go.Proofs.Ytonklhfpjooheaa
open Go.RowKit Go.Shelf
attribute [local go_sem] Oper.semAt_some

theorem T.span_dec (l u m : Int) : S.spanOk l u m = decide (l ≤ u ∧ -m ≤ l ∧ u ≤ m) := by
  rw [Bool.eq_iff_iff, S.spanOk_iff, decide_eq_true_iff]
  omega
theorem T.two_dec (n : Nat) (a b : Int) : T.isTwo n a b = (inB a 0 ((n : Int) - 1) && (inB b (-1) ((n : Int) - 1) && decide (a ≠ b))) := by
  unfold T.isTwo
  rw [Bool.eq_iff_iff]
  simp only [Bool.and_eq_true, Bool.or_eq_true, Bool.not_eq_true', beq_iff_eq, beq_eq_false_iff_ne, decide_eq_true_iff, inB_iff]
  omega
theorem T.pair_dec (Hi : Int) (n : Nat) (s0 s1 s2 s3 s4 : Int) : T.pairOk Hi n (s0, s1, s2, s3, s4) = (inB s0 0 Hi && (inB s1 0 ((n : Int) - 1) && (inB s2 (-1) ((n : Int) - 1) && (decide (s1 ≠ s2) && S.spanOk s3 s4 200000)))) := by
  unfold T.pairOk
  simp only [T.two_dec, Bool.and_assoc]
section
variable {H : Int} {rs : T.LR} {os : T.LO} {ps : T.LP}
theorem T.valid_parts : T.valid H rs os ps = true ↔ inB H 1 12 = true ∧ 0 < rs.length ∧ rs.length ≤ 5 ∧ rs.all T.rateOk = true ∧ os.length ≤ 6 ∧ os.all (T.openOk H rs.length) = true ∧ ps.length ≤ 14 ∧ ps.all (T.pairOk H rs.length) = true := by
  unfold T.valid T.hasClk
  simp only [Bool.and_eq_true, decide_eq_true_iff]
  constructor
  · rintro ⟨⟨a, b, c, d⟩, ⟨e, f⟩, g, h⟩
    exact ⟨a, b, c, d, e, f, g, h⟩
  · rintro ⟨a, b, c, d, e, f, g, h⟩
    exact ⟨⟨a, b, c, d⟩, ⟨e, f⟩, g, h⟩
theorem T.all_at {α : Type} {l : List α} {d : α} {p : α → Bool} : l.all p = true ↔ ∀ j, j < l.length → p (l.getD j d) = true := by
  rw [List.all_eq_true]
  constructor
  · intro h j hj
    refine h _ ?_
    rw [List.getD_eq_getElem?_getD, List.getElem?_eq_getElem hj]
    exact List.getElem_mem _
  · intro h x hx
    obtain ⟨i, hi, e⟩ := List.mem_iff_getElem.1 hx
    have := h i hi
    rw [List.getD_eq_getElem?_getD, List.getElem?_eq_getElem hi] at this
    rw [← e]
    exact this
theorem T.valid_rateOk {k : Nat} (hk : k < rs.length) (h : T.rateOk (rs.getD k (0, 0)) = false) : T.valid H rs os ps = false := by
  rw [← Bool.not_eq_true]
  intro hv
  have := (T.all_at (d := (0, 0))).1 (T.valid_parts.1 hv).2.2.2.1 k hk
  rw [h] at this
  cases this
theorem T.valid_openOk {k : Nat} (hk : k < os.length) (h : T.openOk H rs.length (os.getD k (0, 0, 0, 0)) = false) : T.valid H rs os ps = false := by
  rw [← Bool.not_eq_true]
  intro hv
  have := (T.all_at (d := (0, 0, 0, 0))).1 (T.valid_parts.1 hv).2.2.2.2.2.1 k hk
  rw [h] at this
  cases this
theorem T.valid_pairOk {k : Nat} (hk : k < ps.length) (h : T.pairOk H rs.length (ps.getD k (0, 0, 0, 0, 0)) = false) : T.valid H rs os ps = false := by
  rw [← Bool.not_eq_true]
  intro hv
  have := (T.all_at (d := (0, 0, 0, 0, 0))).1 (T.valid_parts.1 hv).2.2.2.2.2.2.2 k hk
  rw [h] at this
  cases this
theorem T.valid_mk (h1 : inB H 1 12 = true) (h2 : inB (rs.length : Int) 1 5 = true) (h3 : os.length ≤ 6) (h4 : ps.length ≤ 14) (a : ∀ j, j < rs.length → T.rateOk (rs.getD j (0, 0)) = true) (b : ∀ j, j < os.length → T.openOk H rs.length (os.getD j (0, 0, 0, 0)) = true) (c : ∀ j, j < ps.length → T.pairOk H rs.length (ps.getD j (0, 0, 0, 0, 0)) = true) : T.valid H rs os ps = true := by
  have := inB_iff.1 h2
  exact T.valid_parts.2 ⟨h1, by omega, by omega, T.all_at.2 a, h3, T.all_at.2 b, h4, T.all_at.2 c⟩
end
section
variable {Hi : Int} {aR aO aP : Option Addr} {nR cR nO cO nP cP : Nat} {rs : T.LR} {os : T.LO} {ps : T.LP}
set_option maxRecDepth 100000 in
set_option maxHeartbeats 4000000 in
theorem r_Check_any {w : World} (I : Sps w (.slice aR nR cR) rs) (IO : Ops w (.slice aO nO cO) os) (IP : Prs w (.slice aP nP cP) ps) :
    Calls Try.prog 18 #[ClV Hi (.slice aR nR cR) (.slice aO nO cO) (.slice aP nP cP)] w fun e w' => e = .returned (.int .i64 (if T.valid Hi rs os ps = false then 20 else 0)) ∧ Up w w' := by
  have hn := I.len
  subst hn
  have hno := IO.len
  subst hno
  have hnp := IP.len
  subst hnp
  have m1 := I.max
  have m2 := IO.max
  have m3 := IP.max
  obtain ⟨ec, hec⟩ : ∃ c : Int, (if T.valid Hi rs os ps = false then 20 else 0) = c := ⟨_, rfl⟩
  rw [hec]
  have HE := Lib.hid hec
  have HI := Lib.hid I
  have HO := Lib.hid IO
  have HP := Lib.hid IP
  obtain ⟨b1, hb1⟩ : ∃ q, inB Hi 1 12 = q := ⟨_, rfl⟩
  obtain ⟨b2, hb2⟩ : ∃ q, inB (rs.length : Int) 1 5 = q := ⟨_, rfl⟩
  have HB1 := Lib.hid hb1
  have HB2 := Lib.hid hb2
  have HL1 := Lib.hid (fun w => show Calls Try.prog 47 #[.int .i64 Hi, .int .i64 1, .int .i64 12] w fun e w' => e = .returned (.bool b1) ∧ w = w' by rw [← hb1]; exact B_Lies_any _ _ _ w)
  have HL2 := Lib.hid (fun w => show Calls Try.prog 47 #[.int .i64 (rs.length : Int), .int .i64 1, .int .i64 5] w fun e w' => e = .returned (.bool b2) ∧ w = w' by rw [← hb2]; exact B_Lies_any _ _ _ w)
  have V := (Up.refl w).alloc (.cells #[.int .i64 Hi, .slice aR rs.length cR, .slice aO os.length cO, .slice aP ps.length cP] 26)
  clear hec hb1 hb2 I IO IP
  go_enter Try.func18, Try.ntmps18
  obtain ⟨q0, e0⟩ : ∃ x, w.heap.size = x := ⟨_, rfl⟩
  have kC := blk_new w (.cells #[.int .i64 Hi, .slice aR rs.length cR, .slice aO os.length cO, .slice aP ps.length cP] 26) q0 e0.symm
  go_wp2_with fail
  refine (HL1.out _).mono ?_
  rintro e w2 ⟨rfl, rfl⟩
  cases b1 with
  | false =>
    have HF := Lib.hid (show T.valid Hi rs os ps = false by
      rw [← Bool.not_eq_true]
      intro hv
      have := (T.valid_parts.1 hv).1
      rw [HB1.out] at this
      cases this)
    go_wp2_with fail
    go_loopw [3] (fun b wr => b = .bool false ∧ Up w wr) (fun _ _ => 0)
    case atStart => exact ⟨rfl, V⟩
    case round =>
      obtain ⟨rfl, V⟩ := hrel
      go_wp2_with fail
      go_loopw [3] (fun b wr => b = .bool false ∧ Up w wr) (fun _ _ => 0)
      case atStart => exact ⟨rfl, V⟩
      case round =>
        obtain ⟨rfl, V⟩ := hrel
        go_wp2_with fail
        go_loopw [3] (fun b wr => b = .bool false ∧ Up w wr) (fun _ _ => 0)
        case atStart => exact ⟨rfl, V⟩
        case round =>
          obtain ⟨rfl, V⟩ := hrel
          go_wp2
          go_ret
          exact ⟨(by rw [← HE.out, if_pos HF.out]; rfl), V⟩
  | true =>
    go_wp2_with fail
    refine (HL2.out _).mono ?_
    rintro e w2 ⟨rfl, rfl⟩
    cases b2 with
    | false =>
      have HF := Lib.hid (show T.valid Hi rs os ps = false by
        rw [← Bool.not_eq_true]
        intro hv
        have a := (T.valid_parts.1 hv).2.1
        have b := (T.valid_parts.1 hv).2.2.1
        have := HB2.out
        rw [inB_yes (by omega) (by omega)] at this
        cases this)
      go_wp2_with fail
      go_loopw [3] (fun b wr => b = .bool false ∧ Up w wr) (fun _ _ => 0)
      case atStart => exact ⟨rfl, V⟩
      case round =>
        obtain ⟨rfl, V⟩ := hrel
        go_wp2_with fail
        go_loopw [3] (fun b wr => b = .bool false ∧ Up w wr) (fun _ _ => 0)
        case atStart => exact ⟨rfl, V⟩
        case round =>
          obtain ⟨rfl, V⟩ := hrel
          go_wp2_with fail
          go_loopw [3] (fun b wr => b = .bool false ∧ Up w wr) (fun _ _ => 0)
          case atStart => exact ⟨rfl, V⟩
          case round =>
            obtain ⟨rfl, V⟩ := hrel
            go_wp2
            go_ret
            exact ⟨(by rw [← HE.out, if_pos HF.out]; rfl), V⟩
    | true =>
      by_cases h6 : os.length ≤ 6
      · have d6 : decide ((os.length : Int) ≤ 6) = true := decide_eq_true (by omega)
        by_cases h14 : ps.length ≤ 14
        · have d14 : decide ((ps.length : Int) ≤ 14) = true := decide_eq_true (by omega)
          have HB := Lib.hid (And.intro HB1.out (And.intro HB2.out (And.intro h6 h14)))
          have i1 := inB_iff.1 HB1.out
          have i2 := inB_iff.1 HB2.out
          have wr1 : IntKind.i64.wrap ((rs.length : Int) - 1) = (rs.length : Int) - 1 := IntWalk.i64_in _ (by omega)
          have wr2 : IntKind.i64.wrap (Hi - 1) = Hi - 1 := IntWalk.i64_in _ (by omega)
          clear HL1 HL2
          go_wp2_with fail
          go_loopw [3, 4] (fun b i wr => ∃ (B : Bool) (k : Nat), k ≤ rs.length ∧ b = .bool B ∧ i = .int .i64 k ∧ Up w wr ∧ mblk wr q0 = some (.cells #[.int .i64 Hi, .slice aR rs.length cR, .slice aO os.length cO, .slice aP ps.length cP] 26 (0, 0)) ∧ Hid (B = false → T.valid Hi rs os ps = false) ∧ Hid (B = true → ∀ j, j < k → T.rateOk (rs.getD j (0, 0)) = true)) (fun _ i _ => rs.length - (intOf i).toNat)
          case atStart => exact ⟨true, 0, Nat.zero_le _, rfl, rfl, V, kC, Lib.hid (fun h => by cases h), Lib.hid (fun _ j hj => absurd hj (Nat.not_lt_zero j))⟩
          case round =>
            clear kC V
            obtain ⟨B, k, hk, rfl, rfl, V, kC, HF, HA⟩ := hrel
            cases B with
            | false =>
              replace HF := Lib.hid (HF.out (by trivial))
              clear HA
              go_wp2_with fail
              go_loopw [3] (fun b wr => b = .bool false ∧ Up w wr) (fun _ _ => 0)
              case atStart => exact ⟨rfl, V⟩
              case round =>
                obtain ⟨rfl, V⟩ := hrel
                go_wp2_with fail
                go_loopw [3] (fun b wr => b = .bool false ∧ Up w wr) (fun _ _ => 0)
                case atStart => exact ⟨rfl, V⟩
                case round =>
                  obtain ⟨rfl, V⟩ := hrel
                  go_wp2
                  go_ret
                  exact ⟨(by rw [← HE.out, if_pos HF.out]; rfl), V⟩
            | true =>
              by_cases hlt : k < rs.length
              · have ew : IntKind.i64.wrap ((k : Int) + 1) = (k : Int) + 1 := IntWalk.i64_in _ (by omega)
                have dk : decide ((k : Int) < (rs.length : Int)) = true := decide_eq_true (by omega)
                have ilt : (k : Int) < (rs.length : Int) := by omega
                have HVF := Lib.hid (fun (h : T.rateOk (rs.getD k (0, 0)) = false) => T.valid_rateOk (H := Hi) (rs := rs) (os := os) (ps := ps) hlt h)
                obtain ⟨a', c', e', _, _, hm⟩ := HI.out.is
                injection e' with ea eb ec
                clear eb ec
                obtain ⟨g, off, ga, gl, hx⟩ := hm (by omega)
                subst ea ga
                clear hm
                have cc0 := (V.facts.1 g _ gl).trans (hx k hlt 0 (by omega))
                have cc1 := (V.facts.1 g _ gl).trans (hx k hlt 1 (by omega))
                obtain ⟨⟨s0, s1⟩, hss⟩ : ∃ s, rs.getD k (0, 0) = s := ⟨_, rfl⟩
                rw [hss] at cc0 cc1
                replace cc0 : wr.cell? ⟨g, off + k * 2, none⟩ = some (.int .i64 s0) := cc0
                replace cc1 : wr.cell? ⟨g, off + k * 2 + 1, none⟩ = some (.int .i64 s1) := cc1
                have hok : T.rateOk (rs.getD k (0, 0)) = decide (s0 ≤ s1 ∧ -1000 ≤ s0 ∧ s1 ≤ 1000) := by rw [hss]; exact T.span_dec s0 s1 1000
                obtain ⟨q, hq⟩ : ∃ q, decide (s0 ≤ s1 ∧ -1000 ≤ s0 ∧ s1 ≤ 1000) = q := ⟨_, rfl⟩
                have HC := Lib.hid (fun w => show Calls Try.prog 50 #[SpV s0 s1, .int .i64 (-1000), .int .i64 1000] w fun e w' => e = .returned (.bool q) ∧ Up w w' by rw [← hq]; exact B_Valid_any s0 s1 (-1000) 1000 w)
                rw [hq] at hok
                have HOK := Lib.hid hok
                clear hok hq hss hx
                go_wp2_with fail
                refine (HC.out _).mono ?_
                rintro e w3 ⟨rfl, u3⟩
                replace kC := u3.blk kC
                replace V := V.trans u3
                clear u3 HC cc0 cc1
                have HA2 := Lib.hid (show q = true → ∀ j, j < k + 1 → T.rateOk (rs.getD j (0, 0)) = true from fun hB j hj => by
                  by_cases e : j < k
                  · exact HA.out (by trivial) j e
                  · obtain rfl : j = k := by omega
                    rw [HOK.out]
                    exact hB)
                have HF2 := Lib.hid (show q = false → T.valid Hi rs os ps = false from fun hB => HVF.out (by rw [HOK.out]; exact hB))
                clear HF HA
                go_wp2_with fail
                go_roundw
                case rel => exact ⟨q, k + 1, by omega, rfl, by go_num, V, kC, Lib.hid (fun h => HF2.out (by first | exact h | trivial)), Lib.hid (fun h => by first | (cases h; done) | exact HA2.out h)⟩
                case measure => (simp only [intOf]; omega)
              · have hkn : k = rs.length := by omega
                subst hkn
                have dk : decide ((rs.length : Int) < (rs.length : Int)) = false := decide_eq_false (by omega)
                have Hrs := Lib.hid (HA.out (by trivial))
                clear HF HA hlt hk
                go_wp2_with fail
                go_loopw [3, 5] (fun b i wr => ∃ (B : Bool) (k : Nat), k ≤ os.length ∧ b = .bool B ∧ i = .int .i64 k ∧ Up w wr ∧ mblk wr q0 = some (.cells #[.int .i64 Hi, .slice aR rs.length cR, .slice aO os.length cO, .slice aP ps.length cP] 26 (0, 0)) ∧ Hid (B = false → T.valid Hi rs os ps = false) ∧ Hid (B = true → ∀ j, j < k → T.openOk Hi rs.length (os.getD j (0, 0, 0, 0)) = true)) (fun _ i _ => os.length - (intOf i).toNat)
                case atStart => exact ⟨true, 0, Nat.zero_le _, rfl, rfl, V, kC, Lib.hid (fun h => by cases h), Lib.hid (fun _ j hj => absurd hj (Nat.not_lt_zero j))⟩
                case round =>
                  clear kC V
                  obtain ⟨B, k, hk, rfl, rfl, V, kC, HF, HA⟩ := hrel
                  cases B with
                  | false =>
                    replace HF := Lib.hid (HF.out (by trivial))
                    clear HA
                    go_wp2_with fail
                    go_loopw [3] (fun b wr => b = .bool false ∧ Up w wr) (fun _ _ => 0)
                    case atStart => exact ⟨rfl, V⟩
                    case round =>
                      obtain ⟨rfl, V⟩ := hrel
                      go_wp2
                      go_ret
                      exact ⟨(by rw [← HE.out, if_pos HF.out]; rfl), V⟩
                  | true =>
                    by_cases hlt : k < os.length
                    · have ew : IntKind.i64.wrap ((k : Int) + 1) = (k : Int) + 1 := IntWalk.i64_in _ (by omega)
                      have dk : decide ((k : Int) < (os.length : Int)) = true := decide_eq_true (by omega)
                      have ilt : (k : Int) < (os.length : Int) := by omega
                      have HVF := Lib.hid (fun (h : T.openOk Hi rs.length (os.getD k (0, 0, 0, 0)) = false) => T.valid_openOk (H := Hi) (rs := rs) (os := os) (ps := ps) hlt h)
                      obtain ⟨a', c', e', _, _, hm⟩ := HO.out.is
                      injection e' with ea eb ec
                      clear eb ec
                      obtain ⟨g, off, ga, gl, hx⟩ := hm (by omega)
                      subst ea ga
                      clear hm
                      have cc0 := (V.facts.1 g _ gl).trans (hx k hlt 0 (by omega))
                      have cc1 := (V.facts.1 g _ gl).trans (hx k hlt 1 (by omega))
                      have cc2 := (V.facts.1 g _ gl).trans (hx k hlt 2 (by omega))
                      have cc3 := (V.facts.1 g _ gl).trans (hx k hlt 3 (by omega))
                      obtain ⟨⟨s0, s1, s2, s3⟩, hss⟩ : ∃ s, os.getD k (0, 0, 0, 0) = s := ⟨_, rfl⟩
                      rw [hss] at cc0 cc1 cc2 cc3
                      replace cc0 : wr.cell? ⟨g, off + k * 4, none⟩ = some (.int .i64 s0) := cc0
                      replace cc1 : wr.cell? ⟨g, off + k * 4 + 1, none⟩ = some (.int .i64 s1) := cc1
                      replace cc2 : wr.cell? ⟨g, off + k * 4 + 2, none⟩ = some (.int .i64 s2) := cc2
                      replace cc3 : wr.cell? ⟨g, off + k * 4 + 3, none⟩ = some (.int .i64 s3) := cc3
                      obtain ⟨q1, hq1⟩ : ∃ q, inB s0 0 ((rs.length : Int) - 1) = q := ⟨_, rfl⟩
                      obtain ⟨q2, hq2⟩ : ∃ q, inB s1 0 (Hi - 1) = q := ⟨_, rfl⟩
                      obtain ⟨qv, hqv⟩ : ∃ q, decide (s2 ≤ s3 ∧ -100000 ≤ s2 ∧ s3 ≤ 100000) = q := ⟨_, rfl⟩
                      have HOK := Lib.hid (show T.openOk Hi rs.length (os.getD k (0, 0, 0, 0)) = (q1 && (q2 && qv)) by rw [hss, ← hq1, ← hq2, ← hqv, ← T.span_dec]; rfl)
                      have HCq1 := Lib.hid (fun w => show Calls Try.prog 47 #[.int .i64 s0, .int .i64 0, .int .i64 ((rs.length : Int) - 1)] w fun e w' => e = .returned (.bool q1) ∧ w = w' by rw [← hq1]; exact B_Lies_any _ _ _ w)
                      have HCq2 := Lib.hid (fun w => show Calls Try.prog 47 #[.int .i64 s1, .int .i64 0, .int .i64 (Hi - 1)] w fun e w' => e = .returned (.bool q2) ∧ w = w' by rw [← hq2]; exact B_Lies_any _ _ _ w)
                      have HCqv := Lib.hid (fun w => show Calls Try.prog 50 #[SpV s2 s3, .int .i64 (-100000), .int .i64 100000] w fun e w' => e = .returned (.bool qv) ∧ Up w w' by rw [← hqv]; exact B_Valid_any _ _ _ _ w)
                      clear hq1 hq2 hqv
                      have lk0 := blk_lt kC
                      have i0 := kC
                      have kn := blk_new wr (.cells #[.int .i64 s0, .int .i64 s1, .int .i64 s2, .int .i64 s3] 63) _ rfl
                      replace kC := blk_keep (.cells #[.int .i64 s0, .int .i64 s1, .int .i64 s2, .int .i64 s3] 63) kC
                      replace V := V.alloc (.cells #[.int .i64 s0, .int .i64 s1, .int .i64 s2, .int .i64 s3] 63)
                      obtain ⟨pn, hpn⟩ : ∃ z, wr.heap.size = z := ⟨_, rfl⟩
                      obtain ⟨W1, hW1⟩ : ∃ z, wr.alloc (.cells #[.int .i64 s0, .int .i64 s1, .int .i64 s2, .int .i64 s3] 63) = z := ⟨_, rfl⟩
                      rw [hpn] at kn
                      rw [hW1] at kn kC V
                      clear hss hx
                      go_wp2_with fail
                      clear hpn hW1 lk0 i0 cc0 cc1 cc2 cc3
                      refine (HCq1.out _).mono ?_
                      rintro e w3 ⟨rfl, rfl⟩
                      cases q1 with
                      | false =>
                        have HA2 := Lib.hid (show false = true → ∀ j, j < k + 1 → T.openOk Hi rs.length (os.getD j (0, 0, 0, 0)) = true from fun hB j hj => by
                          by_cases e : j < k
                          · exact HA.out (by trivial) j e
                          · obtain rfl : j = k := by omega
                            rw [HOK.out]
                            cases hB)
                        have HF2 := Lib.hid (show false = false → T.valid Hi rs os ps = false from fun hB => HVF.out (by rw [HOK.out]; simp))
                        clear HF HA
                        go_wp2_with fail
                        go_roundw
                        case rel => exact ⟨false, k + 1, by omega, rfl, by go_num, V, kC, Lib.hid (fun h => HF2.out (by first | exact h | trivial)), Lib.hid (fun h => by first | (cases h; done) | exact HA2.out h)⟩
                        case measure => (simp only [intOf]; omega)
                      | true =>
                        go_wp2_with fail
                        refine (HCq2.out _).mono ?_
                        rintro e w3 ⟨rfl, rfl⟩
                        cases q2 with
                        | false =>
                          have HA2 := Lib.hid (show false = true → ∀ j, j < k + 1 → T.openOk Hi rs.length (os.getD j (0, 0, 0, 0)) = true from fun hB j hj => by
                            by_cases e : j < k
                            · exact HA.out (by trivial) j e
                            · obtain rfl : j = k := by omega
                              rw [HOK.out]
                              cases hB)
                          have HF2 := Lib.hid (show false = false → T.valid Hi rs os ps = false from fun hB => HVF.out (by rw [HOK.out]; simp))
                          clear HF HA
                          go_wp2_with fail
                          go_roundw
                          case rel => exact ⟨false, k + 1, by omega, rfl, by go_num, V, kC, Lib.hid (fun h => HF2.out (by first | exact h | trivial)), Lib.hid (fun h => by first | (cases h; done) | exact HA2.out h)⟩
                          case measure => (simp only [intOf]; omega)
                        | true =>
                          go_wp2_with fail
                          refine (HCqv.out _).mono ?_
                          rintro e w3 ⟨rfl, u3⟩
                          replace kC := u3.blk kC
                          replace V := V.trans u3
                          clear u3 kn
                          have HA2 := Lib.hid (show qv = true → ∀ j, j < k + 1 → T.openOk Hi rs.length (os.getD j (0, 0, 0, 0)) = true from fun hB j hj => by
                            by_cases e : j < k
                            · exact HA.out (by trivial) j e
                            · obtain rfl : j = k := by omega
                              rw [HOK.out]
                              rw [hB]; rfl)
                          have HF2 := Lib.hid (show qv = false → T.valid Hi rs os ps = false from fun hB => HVF.out (by rw [HOK.out]; rw [hB]; rfl))
                          clear HF HA
                          go_wp2_with fail
                          go_roundw
                          case rel => exact ⟨qv, k + 1, by omega, rfl, by go_num, V, kC, Lib.hid (fun h => HF2.out (by first | exact h | trivial)), Lib.hid (fun h => by first | (cases h; done) | exact HA2.out h)⟩
                          case measure => (simp only [intOf]; omega)
                    · have hkn : k = os.length := by omega
                      subst hkn
                      have dk : decide ((os.length : Int) < (os.length : Int)) = false := decide_eq_false (by omega)
                      have Hos := Lib.hid (HA.out (by trivial))
                      clear HF HA hlt hk
                      go_wp2_with fail
                      go_loopw [3, 7] (fun b i wr => ∃ (B : Bool) (k : Nat), k ≤ ps.length ∧ b = .bool B ∧ i = .int .i64 k ∧ Up w wr ∧ mblk wr q0 = some (.cells #[.int .i64 Hi, .slice aR rs.length cR, .slice aO os.length cO, .slice aP ps.length cP] 26 (0, 0)) ∧ Hid (B = false → T.valid Hi rs os ps = false) ∧ Hid (B = true → ∀ j, j < k → T.pairOk Hi rs.length (ps.getD j (0, 0, 0, 0, 0)) = true)) (fun _ i _ => ps.length - (intOf i).toNat)
                      case atStart => exact ⟨true, 0, Nat.zero_le _, rfl, rfl, V, kC, Lib.hid (fun h => by cases h), Lib.hid (fun _ j hj => absurd hj (Nat.not_lt_zero j))⟩
                      case round =>
                        clear kC V
                        obtain ⟨B, k, hk, rfl, rfl, V, kC, HF, HA⟩ := hrel
                        cases B with
                        | false =>
                          replace HF := Lib.hid (HF.out (by trivial))
                          clear HA
                          go_wp2
                          go_ret
                          exact ⟨(by rw [← HE.out, if_pos HF.out]; rfl), V⟩
                        | true =>
                          by_cases hlt : k < ps.length
                          · have ew : IntKind.i64.wrap ((k : Int) + 1) = (k : Int) + 1 := IntWalk.i64_in _ (by omega)
                            have dk : decide ((k : Int) < (ps.length : Int)) = true := decide_eq_true (by omega)
                            have ilt : (k : Int) < (ps.length : Int) := by omega
                            have HVF := Lib.hid (fun (h : T.pairOk Hi rs.length (ps.getD k (0, 0, 0, 0, 0)) = false) => T.valid_pairOk (H := Hi) (rs := rs) (os := os) (ps := ps) hlt h)
                            obtain ⟨a', c', e', _, _, hm⟩ := HP.out.is
                            injection e' with ea eb ec
                            clear eb ec
                            obtain ⟨g, off, ga, gl, hx⟩ := hm (by omega)
                            subst ea ga
                            clear hm
                            have cc0 := (V.facts.1 g _ gl).trans (hx k hlt 0 (by omega))
                            have cc1 := (V.facts.1 g _ gl).trans (hx k hlt 1 (by omega))
                            have cc2 := (V.facts.1 g _ gl).trans (hx k hlt 2 (by omega))
                            have cc3 := (V.facts.1 g _ gl).trans (hx k hlt 3 (by omega))
                            have cc4 := (V.facts.1 g _ gl).trans (hx k hlt 4 (by omega))
                            obtain ⟨⟨s0, s1, s2, s3, s4⟩, hss⟩ : ∃ s, ps.getD k (0, 0, 0, 0, 0) = s := ⟨_, rfl⟩
                            rw [hss] at cc0 cc1 cc2 cc3 cc4
                            replace cc0 : wr.cell? ⟨g, off + k * 5, none⟩ = some (.int .i64 s0) := cc0
                            replace cc1 : wr.cell? ⟨g, off + k * 5 + 1, none⟩ = some (.int .i64 s1) := cc1
                            replace cc2 : wr.cell? ⟨g, off + k * 5 + 2, none⟩ = some (.int .i64 s2) := cc2
                            replace cc3 : wr.cell? ⟨g, off + k * 5 + 3, none⟩ = some (.int .i64 s3) := cc3
                            replace cc4 : wr.cell? ⟨g, off + k * 5 + 4, none⟩ = some (.int .i64 s4) := cc4
                            obtain ⟨q1, hq1⟩ : ∃ q, inB s0 0 Hi = q := ⟨_, rfl⟩
                            obtain ⟨q2, hq2⟩ : ∃ q, inB s1 0 ((rs.length : Int) - 1) = q := ⟨_, rfl⟩
                            obtain ⟨q3, hq3⟩ : ∃ q, inB s2 (-1) ((rs.length : Int) - 1) = q := ⟨_, rfl⟩
                            obtain ⟨q4, hq4⟩ : ∃ q, decide (s1 ≠ s2) = q := ⟨_, rfl⟩
                            obtain ⟨qv, hqv⟩ : ∃ q, decide (s3 ≤ s4 ∧ -200000 ≤ s3 ∧ s4 ≤ 200000) = q := ⟨_, rfl⟩
                            have HOK := Lib.hid (show T.pairOk Hi rs.length (ps.getD k (0, 0, 0, 0, 0)) = (q1 && (q2 && (q3 && (q4 && qv)))) by rw [hss, ← hq1, ← hq2, ← hq3, ← hq4, ← hqv, ← T.span_dec]; exact T.pair_dec _ _ _ _ _ _ _)
                            have hne : ((s1 == s2) = true ∧ (s1 != s2) = false ∧ q4 = false) ∨ ((s1 == s2) = false ∧ (s1 != s2) = true ∧ q4 = true) := by
                              by_cases c : s1 = s2
                              · exact .inl ⟨by simpa using c, by simpa using c, by rw [← hq4]; exact decide_eq_false (fun h => h c)⟩
                              · exact .inr ⟨by simpa using c, by simpa using c, by rw [← hq4]; exact decide_eq_true c⟩
                            have HCq1 := Lib.hid (fun w => show Calls Try.prog 47 #[.int .i64 s0, .int .i64 0, .int .i64 Hi] w fun e w' => e = .returned (.bool q1) ∧ w = w' by rw [← hq1]; exact B_Lies_any _ _ _ w)
                            have HCq2 := Lib.hid (fun w => show Calls Try.prog 47 #[.int .i64 s1, .int .i64 0, .int .i64 ((rs.length : Int) - 1)] w fun e w' => e = .returned (.bool q2) ∧ w = w' by rw [← hq2]; exact B_Lies_any _ _ _ w)
                            have HCq3 := Lib.hid (fun w => show Calls Try.prog 47 #[.int .i64 s2, .int .i64 (-1), .int .i64 ((rs.length : Int) - 1)] w fun e w' => e = .returned (.bool q3) ∧ w = w' by rw [← hq3]; exact B_Lies_any _ _ _ w)
                            have HCqv := Lib.hid (fun w => show Calls Try.prog 50 #[SpV s3 s4, .int .i64 (-200000), .int .i64 200000] w fun e w' => e = .returned (.bool qv) ∧ Up w w' by rw [← hqv]; exact B_Valid_any _ _ _ _ w)
                            clear hq1 hq2 hq3 hq4 hqv
                            have lk0 := blk_lt kC
                            have i0 := kC
                            have kn := blk_new wr (.cells #[.int .i64 s0, .int .i64 s1, .int .i64 s2, .int .i64 s3, .int .i64 s4] 61) _ rfl
                            replace kC := blk_keep (.cells #[.int .i64 s0, .int .i64 s1, .int .i64 s2, .int .i64 s3, .int .i64 s4] 61) kC
                            replace V := V.alloc (.cells #[.int .i64 s0, .int .i64 s1, .int .i64 s2, .int .i64 s3, .int .i64 s4] 61)
                            obtain ⟨pn, hpn⟩ : ∃ z, wr.heap.size = z := ⟨_, rfl⟩
                            obtain ⟨W1, hW1⟩ : ∃ z, wr.alloc (.cells #[.int .i64 s0, .int .i64 s1, .int .i64 s2, .int .i64 s3, .int .i64 s4] 61) = z := ⟨_, rfl⟩
                            rw [hpn] at kn
                            rw [hW1] at kn kC V
                            clear hss hx
                            go_wp2_with fail
                            clear hpn hW1 lk0 i0 cc0 cc1 cc2 cc3 cc4
                            refine (HCq1.out _).mono ?_
                            rintro e w3 ⟨rfl, rfl⟩
                            cases q1 with
                            | false =>
                              have HA2 := Lib.hid (show false = true → ∀ j, j < k + 1 → T.pairOk Hi rs.length (ps.getD j (0, 0, 0, 0, 0)) = true from fun hB j hj => by
                                by_cases e : j < k
                                · exact HA.out (by trivial) j e
                                · obtain rfl : j = k := by omega
                                  rw [HOK.out]
                                  cases hB)
                              have HF2 := Lib.hid (show false = false → T.valid Hi rs os ps = false from fun hB => HVF.out (by rw [HOK.out]; simp))
                              clear HF HA
                              go_wp2_with fail
                              go_roundw
                              case rel => exact ⟨false, k + 1, by omega, rfl, by go_num, V, kC, Lib.hid (fun h => HF2.out (by first | exact h | trivial)), Lib.hid (fun h => by first | (cases h; done) | exact HA2.out h)⟩
                              case measure => (simp only [intOf]; omega)
                            | true =>
                              go_wp2_with fail
                              refine (HCq2.out _).mono ?_
                              rintro e w3 ⟨rfl, rfl⟩
                              cases q2 with
                              | false =>
                                have HA2 := Lib.hid (show false = true → ∀ j, j < k + 1 → T.pairOk Hi rs.length (ps.getD j (0, 0, 0, 0, 0)) = true from fun hB j hj => by
                                  by_cases e : j < k
                                  · exact HA.out (by trivial) j e
                                  · obtain rfl : j = k := by omega
                                    rw [HOK.out]
                                    cases hB)
                                have HF2 := Lib.hid (show false = false → T.valid Hi rs os ps = false from fun hB => HVF.out (by rw [HOK.out]; simp))
                                clear HF HA
                                go_wp2_with fail
                                go_roundw
                                case rel => exact ⟨false, k + 1, by omega, rfl, by go_num, V, kC, Lib.hid (fun h => HF2.out (by first | exact h | trivial)), Lib.hid (fun h => by first | (cases h; done) | exact HA2.out h)⟩
                                case measure => (simp only [intOf]; omega)
                              | true =>
                                go_wp2_with fail
                                refine (HCq3.out _).mono ?_
                                rintro e w3 ⟨rfl, rfl⟩
                                cases q3 with
                                | false =>
                                  have HA2 := Lib.hid (show false = true → ∀ j, j < k + 1 → T.pairOk Hi rs.length (ps.getD j (0, 0, 0, 0, 0)) = true from fun hB j hj => by
                                    by_cases e : j < k
                                    · exact HA.out (by trivial) j e
                                    · obtain rfl : j = k := by omega
                                      rw [HOK.out]
                                      cases hB)
                                  have HF2 := Lib.hid (show false = false → T.valid Hi rs os ps = false from fun hB => HVF.out (by rw [HOK.out]; simp))
                                  clear HF HA
                                  go_wp2_with fail
                                  go_roundw
                                  case rel => exact ⟨false, k + 1, by omega, rfl, by go_num, V, kC, Lib.hid (fun h => HF2.out (by first | exact h | trivial)), Lib.hid (fun h => by first | (cases h; done) | exact HA2.out h)⟩
                                  case measure => (simp only [intOf]; omega)
                                | true =>
                                  rcases hne with ⟨f1, f2, rfl⟩ | ⟨f1, f2, rfl⟩
                                  · have HA2 := Lib.hid (show false = true → ∀ j, j < k + 1 → T.pairOk Hi rs.length (ps.getD j (0, 0, 0, 0, 0)) = true from fun hB j hj => by
                                      by_cases e : j < k
                                      · exact HA.out (by trivial) j e
                                      · obtain rfl : j = k := by omega
                                        rw [HOK.out]
                                        cases hB)
                                    have HF2 := Lib.hid (show false = false → T.valid Hi rs os ps = false from fun hB => HVF.out (by rw [HOK.out]; simp))
                                    clear HF HA
                                    go_wp2_with fail
                                    go_roundw
                                    case rel => exact ⟨false, k + 1, by omega, rfl, by go_num, V, kC, Lib.hid (fun h => HF2.out (by first | exact h | trivial)), Lib.hid (fun h => by first | (cases h; done) | exact HA2.out h)⟩
                                    case measure => (simp only [intOf]; omega)
                                  · go_wp2_with fail
                                    refine (HCqv.out _).mono ?_
                                    rintro e w3 ⟨rfl, u3⟩
                                    replace kC := u3.blk kC
                                    replace V := V.trans u3
                                    clear u3 kn
                                    have HA2 := Lib.hid (show qv = true → ∀ j, j < k + 1 → T.pairOk Hi rs.length (ps.getD j (0, 0, 0, 0, 0)) = true from fun hB j hj => by
                                      by_cases e : j < k
                                      · exact HA.out (by trivial) j e
                                      · obtain rfl : j = k := by omega
                                        rw [HOK.out]
                                        rw [hB]; rfl)
                                    have HF2 := Lib.hid (show qv = false → T.valid Hi rs os ps = false from fun hB => HVF.out (by rw [HOK.out]; rw [hB]; rfl))
                                    clear HF HA
                                    go_wp2_with fail
                                    go_roundw
                                    case rel => exact ⟨qv, k + 1, by omega, rfl, by go_num, V, kC, Lib.hid (fun h => HF2.out (by first | exact h | trivial)), Lib.hid (fun h => by first | (cases h; done) | exact HA2.out h)⟩
                                    case measure => (simp only [intOf]; omega)
                          · have hkn : k = ps.length := by omega
                            subst hkn
                            have dk : decide ((ps.length : Int) < (ps.length : Int)) = false := decide_eq_false (by omega)
                            have Hps := Lib.hid (HA.out (by trivial))
                            clear HF HA hlt hk
                            have hv := T.valid_mk (H := Hi) (rs := rs) (os := os) (ps := ps) HB.out.1 HB.out.2.1 HB.out.2.2.1 HB.out.2.2.2 Hrs.out Hos.out Hps.out
                            have HE2 := Lib.hid (show ec = 0 by rw [← HE.out, if_neg (by rw [hv]; decide)])
                            clear hv
                            go_wp2
                            go_ret
                            exact ⟨(by rw [HE2.out]; rfl), V⟩
        · have d14 : decide ((ps.length : Int) ≤ 14) = false := decide_eq_false (by omega)
          have HF := Lib.hid (show T.valid Hi rs os ps = false by
            rw [← Bool.not_eq_true]
            intro hv
            exact h14 (T.valid_parts.1 hv).2.2.2.2.2.2.1)
          clear h14
          go_wp2_with fail
          go_loopw [3] (fun b wr => b = .bool false ∧ Up w wr) (fun _ _ => 0)
          case atStart => exact ⟨rfl, V⟩
          case round =>
            obtain ⟨rfl, V⟩ := hrel
            go_wp2_with fail
            go_loopw [3] (fun b wr => b = .bool false ∧ Up w wr) (fun _ _ => 0)
            case atStart => exact ⟨rfl, V⟩
            case round =>
              obtain ⟨rfl, V⟩ := hrel
              go_wp2_with fail
              go_loopw [3] (fun b wr => b = .bool false ∧ Up w wr) (fun _ _ => 0)
              case atStart => exact ⟨rfl, V⟩
              case round =>
                obtain ⟨rfl, V⟩ := hrel
                go_wp2
                go_ret
                exact ⟨(by rw [← HE.out, if_pos HF.out]; rfl), V⟩
      · have d6 : decide ((os.length : Int) ≤ 6) = false := decide_eq_false (by omega)
        have HF := Lib.hid (show T.valid Hi rs os ps = false by
          rw [← Bool.not_eq_true]
          intro hv
          exact h6 (T.valid_parts.1 hv).2.2.2.2.1)
        clear h6
        go_wp2_with fail
        go_loopw [3] (fun b wr => b = .bool false ∧ Up w wr) (fun _ _ => 0)
        case atStart => exact ⟨rfl, V⟩
        case round =>
          obtain ⟨rfl, V⟩ := hrel
          go_wp2_with fail
          go_loopw [3] (fun b wr => b = .bool false ∧ Up w wr) (fun _ _ => 0)
          case atStart => exact ⟨rfl, V⟩
          case round =>
            obtain ⟨rfl, V⟩ := hrel
            go_wp2_with fail
            go_loopw [3] (fun b wr => b = .bool false ∧ Up w wr) (fun _ _ => 0)
            case atStart => exact ⟨rfl, V⟩
            case round =>
              obtain ⟨rfl, V⟩ := hrel
              go_wp2
              go_ret
              exact ⟨(by rw [← HE.out, if_pos HF.out]; rfl), V⟩
end

end Go.Proofs.Ytonklhfpjooheaa
