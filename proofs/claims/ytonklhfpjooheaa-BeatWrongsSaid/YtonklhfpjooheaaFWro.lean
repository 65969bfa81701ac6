import Derived.Test.YtonklhfpjooheaaBth
import Derived.Test.YtonklhfpjooheaaRbe
import Derived.Test.YtonklhfpjooheaaRwr
import Derived.Test.YtonklhfpjooheaaLws
import Derived.Test.YtonklhfpjooheaaHeQ
/- The law BeatWrongs. -/
namespace Go.Proofs.Ytonklhfpjooheaa
open Go.RowKit Go.Shelf
attribute [local go_sem] Oper.semAt_some

section
variable {aR aO aP : Option Addr} {nR cR nO cO nP cP : Nat} {Hi : Int} {rs : T.LR} {os : T.LO} {ps : T.LP}
theorem T.ask_hr {h e : Int} (hq : T.askErr Hi rs os ps [0] [h] = e) : T.askErr Hi rs os ps [] [h] = e := by
  rw [← hq]
  unfold T.askErr
  cases hv : T.valid Hi rs os ps with
  | false => rw [if_pos rfl, if_pos rfl]
  | true =>
    obtain ⟨H, rfl⟩ := T.valid_nat hv
    have r1 := (T.valid_good.1 hv).r1
    have e0 : T.clkP rs.length 0 = true := inB_yes (Int.le_refl 0) (by omega)
    rw [show [(0 : Int)].all (T.clkP rs.length) = ([] : List Int).all (T.clkP rs.length) from by rw [List.all_cons, e0, Bool.true_and]]
theorem T.both_Best {w : World} (I : Sps w (.slice aR rs.length cR) rs) (IO : Ops w (.slice aO nO cO) os) (IP : Prs w (.slice aP nP cP) ps) (h : Int) :
    ∃ b v e : Int, ∀ w', Up w w' → (Calls Try.prog 30 #[ClV Hi (.slice aR rs.length cR) (.slice aO nO cO) (.slice aP nP cP), .int .i64 h] w' fun e' w'' => e' = .returned (.tuple #[.int .i64 b, .int .i64 v, .int .i64 e]) ∧ Up w' w'') ∧
      (Calls Try.prog 31 #[ClV Hi (.slice aR rs.length cR) (.slice aO nO cO) (.slice aP nP cP), .int .i64 h] w' fun e' w'' => e' = .returned (.tuple #[.int .i64 b, .int .i64 v, .int .i64 e]) ∧ Up w' w'') := by
  obtain ⟨l, u, e, hO⟩ := T.both_Offset (Hi := Hi) I IO IP 0 h
  rcases (hO w (Up.refl w)).2.2 with ⟨hv, _, b2, H, rfl, q⟩ | ⟨h0, _, _, hq⟩
  · have G := T.valid_good.1 hv
    have hh := inB_iff.1 b2
    rcases q.can with ⟨_, y, hy⟩ | ⟨rfl, rfl, rfl, hno⟩
    · have ex : ∀ k : Nat, ∃ s : Int × Int, k < rs.length → T.Tells H rs os ps ((k : Int), h) (-1, 0) s.1 s.2 0 := fun k => by
        by_cases hk : k < rs.length
        · obtain ⟨l, u, e, t⟩ := T.Tells.ex G (T.mom_in (n := rs.length) (k := k) ⟨by omega, by omega⟩ hh) T.mom_0
          rcases t with ⟨rfl, q⟩ | ⟨_, _, _, hn⟩
          · exact ⟨(l, u), fun _ => .inl ⟨rfl, q⟩⟩
          · exact absurd hy (hn y)
        · exact ⟨(0, 0), fun q => absurd q hk⟩
      obtain ⟨S, hS⟩ := Classical.skolem.1 ex
      exact ⟨_, _, _, fun w' u => ⟨Best_ok (I.up u) (IO.up u) (IP.up u) (T.web_ok G) (T.ask0 G (cl := []) (hr := [h]) (by simp) (by simpa using hh)) (Lo := fun k => (S k).1) (Hi := fun k => (S k).2) (fun k hk => by
        rcases (T.tells_asked G).2 (hS k hk) with ⟨_, a⟩ | ⟨a, _⟩
        · exact a
        · exact absurd a (by omega)), r_Best_ok G hh (I.up u) (IO.up u) (IP.up u) (Lo := fun k => (S k).1) (Hi := fun k => (S k).2) hS⟩⟩
    · exact ⟨0, 0, 22, fun w' u => ⟨Best_none G hh hno (I.up u) (IO.up u) (IP.up u), r_Best_bad (by decide) (fun w'' u' => (hO w'' (u.trans u')).2.1)⟩⟩
  · exact ⟨0, 0, e, fun w' u' => ⟨Best_bad (I.up u') (IO.up u') (IP.up u') (T.ask_hr hq) h0, r_Best_bad h0 (fun w'' u'' => (hO w'' (u'.trans u'')).2.1)⟩⟩
theorem T.both_Wrong {w : World} (I : Sps w (.slice aR rs.length cR) rs) (IO : Ops w (.slice aO nO cO) os) (IP : Prs w (.slice aP nP cP) ps) :
    ∃ (ls : List Int) (n : Int), ∀ w', Up w w' → (Calls Try.prog 27 #[ClV Hi (.slice aR rs.length cR) (.slice aO nO cO) (.slice aP nP cP)] w' fun e w'' => (∃ v, e = .returned (.tuple #[v, .int .i64 n]) ∧ Ints w'' v ls) ∧ Up w' w'') ∧
      (Calls Try.prog 28 #[ClV Hi (.slice aR rs.length cR) (.slice aO nO cO) (.slice aP nP cP)] w' fun e w'' => (∃ v, e = .returned (.tuple #[v, .int .i64 n]) ∧ Ints w'' v ls) ∧ Up w' w'') := by
  cases hv : T.valid Hi rs os ps with
  | false => exact ⟨[], 20, fun w' u => ⟨(Wrong_bad (I.up u) (IO.up u) (IP.up u) hv).mono fun e x ⟨a, b⟩ => ⟨⟨_, a, Ints.nil x⟩, b⟩, (r_Wrong_bad (I.up u) (IO.up u) (IP.up u) hv).mono fun e x ⟨a, b⟩ => ⟨⟨_, a, Ints.nil x⟩, b⟩⟩⟩
  | true =>
    obtain ⟨H, rfl⟩ := T.valid_nat hv
    have G := T.valid_good.1 hv
    cases hf : T.few (T.canP rs.length H rs os ps) rs.length 0 with
    | none =>
      have key : ∀ {e : Ending} {x : World}, (∃ (v : Value) (n : Int), e = .returned (.tuple #[v, .int .i64 n]) ∧ ((∃ s, T.few (T.canP rs.length H rs os ps) rs.length 0 = some s ∧ Ints x v (T.lst s 5) ∧ n = 0) ∨ (T.few (T.canP rs.length H rs os ps) rs.length 0 = none ∧ v = .slice none 0 0 ∧ n = 22))) → ∃ v, e = .returned (.tuple #[v, .int .i64 22]) ∧ Ints x v [] := by
        rintro e x ⟨v, n, rfl, ⟨s, a, _⟩ | ⟨_, rfl, rfl⟩⟩
        · rw [hf] at a; cases a
        · exact ⟨_, rfl, Ints.nil x⟩
      exact ⟨[], 22, fun w' u => ⟨(Wrong_ok (I.up u) (IO.up u) (IP.up u) (fun s => T.web_ok G) hv).mono fun e x ⟨a, b⟩ => ⟨key a, b⟩, (r_Wrong_ok G (I.up u) (IO.up u) (IP.up u)).mono fun e x ⟨a, b⟩ => ⟨key a, b⟩⟩⟩
    | some t =>
      have key : ∀ {e : Ending} {x : World}, (∃ (v : Value) (n : Int), e = .returned (.tuple #[v, .int .i64 n]) ∧ ((∃ s, T.few (T.canP rs.length H rs os ps) rs.length 0 = some s ∧ Ints x v (T.lst s 5) ∧ n = 0) ∨ (T.few (T.canP rs.length H rs os ps) rs.length 0 = none ∧ v = .slice none 0 0 ∧ n = 22))) → ∃ v, e = .returned (.tuple #[v, .int .i64 0]) ∧ Ints x v (T.lst t 5) := by
        rintro e x ⟨v, n, rfl, ⟨s, a, b, rfl⟩ | ⟨a, _⟩⟩
        · rw [hf] at a
          cases a
          exact ⟨_, rfl, b⟩
        · rw [hf] at a; cases a
      exact ⟨T.lst t 5, 0, fun w' u => ⟨(Wrong_ok (I.up u) (IO.up u) (IP.up u) (fun s => T.web_ok G) hv).mono fun e x ⟨a, b⟩ => ⟨key a, b⟩, (r_Wrong_ok G (I.up u) (IO.up u) (IP.up u)).mono fun e x ⟨a, b⟩ => ⟨key a, b⟩⟩⟩
set_option maxRecDepth 100000 in
set_option maxHeartbeats 4000000 in
set_option linter.unusedSimpArgs false in
theorem beatWrongs_any {h : Int} {w : World} (I : Sps w (.slice aR nR cR) rs) (IO : Ops w (.slice aO nO cO) os) (IP : Prs w (.slice aP nP cP) ps) :
    Calls Try.prog 6 #[ClV Hi (.slice aR nR cR) (.slice aO nO cO) (.slice aP nP cP), .int .i64 h] w fun e w' => e = .returned (.bool true) ∧ Up w w' := by
  have hn := I.len
  subst hn
  have HW := Lib.hid (fun w => l_works_any w)
  obtain ⟨ls, n, hW⟩ := T.both_Wrong (Hi := Hi) I IO IP
  obtain ⟨b, v, e, hB⟩ := T.both_Best (Hi := Hi) I IO IP h
  have HX := Lib.hid hW
  have HB := Lib.hid hB
  have hmx : Try.prog.follows .mixedOrders = true := by kernel_rfl
  clear hW hB I IO IP
  go_enter Try.func6, Try.ntmps6
  have U := (Up.refl w).alloc (.cells #[.int .i64 Hi, .slice aR rs.length cR, .slice aO nO cO, .slice aP nP cP] 26)
  obtain ⟨q0, e0⟩ : ∃ x, w.heap.size = x := ⟨_, rfl⟩
  have kC := blk_new w (.cells #[.int .i64 Hi, .slice aR rs.length cR, .slice aO nO cO, .slice aP nP cP] 26) q0 e0.symm
  go_wp2_with fail
  refine ((HX.out _ U).1).mono ?_
  rintro e x1 ⟨⟨v1, rfl, I1⟩, u2⟩
  replace U := U.trans u2
  replace kC := u2.blk kC
  clear u2 
  go_wp2_with fail
  refine ((HX.out _ U).2).mono ?_
  rintro e x3 ⟨⟨v2, rfl, I2⟩, u4⟩
  replace U := U.trans u4
  replace kC := u4.blk kC
  replace I1 := I1.up u4
  clear u4 
  have HAl := Lib.hid (show Calls Try.prog 29 #[v1, v2] x3 fun e w' => e = .returned (.bool true) ∧ Up x3 w' by have := B_Alike_any I1 I2; rwa [show decide (ls = ls) = true from decide_eq_true rfl] at this)
  clear I1 I2
  go_wp2_with fail
  refine (HAl.out).mono ?_
  rintro e x5 ⟨rfl, u6⟩
  replace U := U.trans u6
  replace kC := u6.blk kC
  clear u6 HAl
  go_wp2_with fail
  refine ((HB.out _ U).1).mono ?_
  rintro e x7 ⟨rfl, u8⟩
  replace U := U.trans u8
  replace kC := u8.blk kC
  clear u8 
  go_wp2_with fail
  refine ((HB.out _ U).2).mono ?_
  rintro e x9 ⟨rfl, u10⟩
  replace U := U.trans u10
  replace kC := u10.blk kC
  clear u10 
  go_wp2_with fail
  refine (HW.out _).mono ?_
  rintro e x11 ⟨rfl, u12⟩
  replace U := U.trans u12
  replace kC := u12.blk kC
  clear u12 
  go_wp2
  go_ret
  exact ⟨rfl, U⟩
end

end Go.Proofs.Ytonklhfpjooheaa
