import Derived.Test.YtoipfakcmnjenaaLws
/- The contract of the laws' sound. -/
namespace Go.Proofs.Ytoipfakcmnjenaa
open Go.RowKit Go.Shelf
attribute [local go_sem] Oper.semAt_some

section
variable {H : Nat} {aR aO aP : Option Addr} {nR cR nO cO nP cP : Nat} {rs : List (Int × Int)} {os : List (Int × Int × Int × Int)} {ps : List (Int × Int × Int × Int × Int)}
set_option maxRecDepth 100000 in
set_option maxHeartbeats 2000000 in
theorem l_sound_no {w : World} {Hi : Int} (I : Sps w (.slice aR nR cR) rs) (IO : Ops w (.slice aO nO cO) os) (IP : Prs w (.slice aP nP cP) ps) (hv : T.valid Hi rs os ps = false) :
    Calls Try.prog 32 #[ClV Hi (.slice aR nR cR) (.slice aO nO cO) (.slice aP nP cP)] w fun e w' => e = .returned (.bool false) ∧ Up w w' := by
  have HN := Lib.hid (fun w' (u : Up w w') => (Check_any (Hi := Hi) (I.up u) (IO.up u) (IP.up u)))
  clear I IO IP
  go_enter Try.func32, Try.ntmps32
  have U0 := (Up.refl w).alloc (.cells #[.int .i64 Hi, .slice aR nR cR, .slice aO nO cO, .slice aP nP cP] 26)
  go_wp2_with fail
  refine (HN.out _ U0).mono ?_
  rintro e W1 ⟨rfl, u1⟩
  replace U0 := U0.trans u1
  rw [if_pos hv]
  clear HN u1 hv
  go_wp2_with fail
  go_loopw [3] (fun b wr => b = .bool false ∧ Up w wr) (fun _ _ => 0)
  case atStart => exact ⟨rfl, U0⟩
  case round =>
    obtain ⟨rfl, V⟩ := hrel
    clear U0
    go_wp2_with fail
    go_loopw [3] (fun b wr => b = .bool false ∧ Up w wr) (fun _ _ => 0)
    case atStart => exact ⟨rfl, V⟩
    case round =>
      obtain ⟨rfl, V⟩ := hrel
      go_wp2_with fail
      go_loopw [3] (fun b wr => b = .bool false ∧ Up w wr) (fun _ _ => 0)
      case atStart => exact ⟨rfl, V⟩
      case round =>
        obtain ⟨rfl, V⟩ := hrel
        go_wp2
        go_ret
        exact ⟨rfl, V⟩
end

end Go.Proofs.Ytoipfakcmnjenaa
