import Derived.Test.YtnaibklajocejaaTownD
/- The contracts of dial's has and of OnesCount64. -/
namespace Go.Proofs.Ytnaibklajocejaa
open Go.RowKit

set_option maxRecDepth 100000 in
theorem has_any (f u h t : Int) (w : World) :
    Calls Try.prog 95 #[.agg #[.int .i64 f, .int .i64 u, .int .i64 h], .int .i64 t] w fun e w' => e = .returned (.bool (inB t f (wrap64 (u - 1)))) ∧ Up w w' := by
  go_enter Try.func95, Try.ntmps95
  go_wp2_with fail
  refine (within_any _ _ _ _).mono ?_
  rintro e w1 ⟨rfl, rfl⟩
  go_wp2
  go_ret
  exact ⟨rfl, (Up.refl _).alloc _⟩

/-- what OnesCount64 computes, step by step -/
def D.pop (x : Int) : Int :=
  let a := IntKind.u64.wrap (bits .and .u64 (x / 2) 6148914691236517205 + bits .and .u64 x 6148914691236517205)
  let b := IntKind.u64.wrap (bits .and .u64 (a / 4) 3689348814741910323 + bits .and .u64 a 3689348814741910323)
  let c := bits .and .u64 (IntKind.u64.wrap (b / 16 + b)) 1085102592571150095
  let d := IntKind.u64.wrap (c + c / 256)
  let e := IntKind.u64.wrap (d + d / 65536)
  let f := IntKind.u64.wrap (e + e / 4294967296)
  bits .and .i64 (wrap64 f) 127

set_option maxRecDepth 100000 in
theorem ones_any (x : Int) (w : World) :
    Calls Try.prog 98 #[.int .u64 x] w fun e w' => e = .returned (.int .i64 (D.pop x)) ∧ w' = w := by
  go_enter Try.func98, Try.ntmps98
  go_wp2
  go_ret
  exact ⟨rfl, rfl⟩

end Go.Proofs.Ytnaibklajocejaa
