import Derived.Test.YtnaibklajocejaaCalF
/- The contracts of dial's increasing and hasDecrees. -/
namespace Go.Proofs.Ytnaibklajocejaa
open Go.RowKit

/-- are numbers strictly increasing, all above one, and each one that may be there? -/
def D.incr (p : Int → Bool) : Int → List Int → Bool
  | _, [] => true
  | a, n :: l => (decide (a < n) && p n) && D.incr p n l

set_option maxHeartbeats 1000000 in
theorem increasing_isDay (p : Int → Bool) (cs : Array Value) (hF : ∀ n w, Calls Try.prog 53 #[.agg cs, .int .i64 n] w fun e w' => e = .returned (.bool (p n)) ∧ Up w w')
    (a : Int) (b c : Nat) (zs : List Int) (w : World) (hl : zs.length ≤ 1000) (hb : 0 < zs.length → b < w.heap.size) (hc : ∀ k, k < zs.length → w.cell? ⟨b, k, none⟩ = some (.int .i64 (zs.getD k 0))) :
    Calls Try.prog 99 #[.int .i64 a, .slice (some ⟨b, 0, none⟩) zs.length c, .func (.func 53) #[.agg cs] #[]] w fun e w' => e = .returned (.bool (D.incr p a zs)) ∧ Up w w' := by
  have HF := Lib.hid hF
  have HB := Lib.hid hb
  clear hF hb
  go_enter Try.func99, Try.ntmps99
  go_wp2
  go_loopw [0, 8, 11] (fun av _ i wr => ∃ (k : Nat) (ak : Int), k ≤ zs.length ∧ i = .int .i64 k ∧ av = .int .i64 ak ∧ Hid (D.incr p a zs = D.incr p ak (zs.drop k)) ∧ Up w wr) (fun _ _ i _ => zs.length - (intOf i).toNat)
  case atStart => exact ⟨0, a, Nat.zero_le _, rfl, rfl, rfl, Up.refl _⟩
  case round =>
    obtain ⟨k, ak, hk, rfl, rfl, hI, U⟩ := hrel
    by_cases hlt : k < zs.length
    · have hcell : wr.cell? ⟨b, k, none⟩ = some (.int .i64 (zs.getD k 0)) := by
        rw [U.facts.1 b k (HB.out (by omega))]; exact hc k hlt
      have hd : zs.drop k = zs.getD k 0 :: zs.drop (k + 1) := by
        rw [List.drop_eq_getElem_cons hlt, List.getD_eq_getElem?_getD, List.getElem?_eq_getElem hlt]; rfl
      rw [hd, D.incr] at hI
      have HI := Lib.hid hI
      generalize zs.getD k 0 = z at *
      clear hc hd hI
      by_cases hz : z ≤ ak
      · have HZ : Hid (D.incr p a zs = false) := by
          unfold Hid; rw [HI.out.out]
          have : decide (ak < z) = false := by simp; omega
          rw [this]; rfl
        clear HI
        go_wp2
        go_ret
        exact ⟨by rw [HZ.out]; rfl, U⟩
      · have hz' : decide (ak < z) = true := by simp; omega
        rw [hz'] at HI
        clear hz'
        cases hp : p z
        · have K := fun w => HF.out z w
          rw [hp] at K HI
          have HK := Lib.hid K
          have HZ : Hid (D.incr p a zs = false) := by unfold Hid; rw [HI.out.out]; rfl
          clear K HI hp
          go_wp2_with fail
          refine (HK.out _).mono ?_
          rintro e w1 ⟨rfl, u1⟩
          go_wp2
          go_ret
          exact ⟨by rw [HZ.out]; rfl, U.trans u1⟩
        · have K := fun w => HF.out z w
          rw [hp] at K HI
          have HK := Lib.hid K
          have HZ : Hid (D.incr p a zs = D.incr p z (zs.drop (k + 1))) := by unfold Hid; rw [HI.out.out]; rfl
          clear K HI hp
          go_wp2_with fail
          refine (HK.out _).mono ?_
          rintro e w1 ⟨rfl, u1⟩
          go_wp2
          go_roundw
          case rel => exact ⟨k + 1, z, by omega, by go_num, rfl, HZ, U.trans u1⟩
          case measure => simp [intOf]; omega
    · have : zs.drop k = [] := List.drop_of_length_le (by omega)
      have HZ : Hid (D.incr p a zs = true) := by unfold Hid; rw [hI.out, this]; rfl
      clear this hI hc
      go_wp2
      go_ret
      exact ⟨by rw [HZ.out]; rfl, U⟩

set_option maxHeartbeats 1000000 in
theorem increasing_hasReading (p : Int → Bool) (cs : Array Value) (hF : ∀ n w, Calls Try.prog 58 #[.agg cs, .int .i64 n] w fun e w' => e = .returned (.bool (p n)) ∧ Up w w')
    (a : Int) (b c : Nat) (zs : List Int) (w : World) (hl : zs.length ≤ 1000) (hb : 0 < zs.length → b < w.heap.size) (hc : ∀ k, k < zs.length → w.cell? ⟨b, k, none⟩ = some (.int .i64 (zs.getD k 0))) :
    Calls Try.prog 99 #[.int .i64 a, .slice (some ⟨b, 0, none⟩) zs.length c, .func (.func 58) #[.agg cs] #[]] w fun e w' => e = .returned (.bool (D.incr p a zs)) ∧ Up w w' := by
  have HF := Lib.hid hF
  have HB := Lib.hid hb
  clear hF hb
  go_enter Try.func99, Try.ntmps99
  go_wp2
  go_loopw [0, 8, 11] (fun av _ i wr => ∃ (k : Nat) (ak : Int), k ≤ zs.length ∧ i = .int .i64 k ∧ av = .int .i64 ak ∧ Hid (D.incr p a zs = D.incr p ak (zs.drop k)) ∧ Up w wr) (fun _ _ i _ => zs.length - (intOf i).toNat)
  case atStart => exact ⟨0, a, Nat.zero_le _, rfl, rfl, rfl, Up.refl _⟩
  case round =>
    obtain ⟨k, ak, hk, rfl, rfl, hI, U⟩ := hrel
    by_cases hlt : k < zs.length
    · have hcell : wr.cell? ⟨b, k, none⟩ = some (.int .i64 (zs.getD k 0)) := by
        rw [U.facts.1 b k (HB.out (by omega))]; exact hc k hlt
      have hd : zs.drop k = zs.getD k 0 :: zs.drop (k + 1) := by
        rw [List.drop_eq_getElem_cons hlt, List.getD_eq_getElem?_getD, List.getElem?_eq_getElem hlt]; rfl
      rw [hd, D.incr] at hI
      have HI := Lib.hid hI
      generalize zs.getD k 0 = z at *
      clear hc hd hI
      by_cases hz : z ≤ ak
      · have HZ : Hid (D.incr p a zs = false) := by
          unfold Hid; rw [HI.out.out]
          have : decide (ak < z) = false := by simp; omega
          rw [this]; rfl
        clear HI
        go_wp2
        go_ret
        exact ⟨by rw [HZ.out]; rfl, U⟩
      · have hz' : decide (ak < z) = true := by simp; omega
        rw [hz'] at HI
        clear hz'
        cases hp : p z
        · have K := fun w => HF.out z w
          rw [hp] at K HI
          have HK := Lib.hid K
          have HZ : Hid (D.incr p a zs = false) := by unfold Hid; rw [HI.out.out]; rfl
          clear K HI hp
          go_wp2_with fail
          refine (HK.out _).mono ?_
          rintro e w1 ⟨rfl, u1⟩
          go_wp2
          go_ret
          exact ⟨by rw [HZ.out]; rfl, U.trans u1⟩
        · have K := fun w => HF.out z w
          rw [hp] at K HI
          have HK := Lib.hid K
          have HZ : Hid (D.incr p a zs = D.incr p z (zs.drop (k + 1))) := by unfold Hid; rw [HI.out.out]; rfl
          clear K HI hp
          go_wp2_with fail
          refine (HK.out _).mono ?_
          rintro e w1 ⟨rfl, u1⟩
          go_wp2
          go_roundw
          case rel => exact ⟨k + 1, z, by omega, by go_num, rfl, HZ, U.trans u1⟩
          case measure => simp [intOf]; omega
    · have : zs.drop k = [] := List.drop_of_length_le (by omega)
      have HZ : Hid (D.incr p a zs = true) := by unfold Hid; rw [hI.out, this]; rfl
      clear this hI hc
      go_wp2
      go_ret
      exact ⟨by rw [HZ.out]; rfl, U⟩

end Go.Proofs.Ytnaibklajocejaa
