import Derived.Test.YtoipfakcmnjenaaQui
/- Calls in great frames: the arguments are read before the frame is looked at. -/
namespace Go.Proofs.Ytoipfakcmnjenaa
open Go.RowKit

section
variable {a : Act} {d : Option Tmp} {f : FuncId} {x y z u v : Operand} {ts : Array TypeId} {t : TypeId} {p : String} {g : Option (Nat × Bool)} {b : Builtin}
theorem T.call0 {af} : execOp a.eval { dst := d, op := .call { callee := .value (.func f), args := #[], argTypes := ts }, type := t, pos := p, after := af, guard := g } = callFunc f #[] := by
  simp [execOp, resolve, invoke, Deferred.ofValue, Act.eval]
theorem T.call1 {af} : execOp a.eval { dst := d, op := .call { callee := .value (.func f), args := #[x], argTypes := ts }, type := t, pos := p, after := af, guard := g } = callFunc f #[a.eval x] := by
  simp [execOp, resolve, invoke, Deferred.ofValue, Act.eval]
theorem T.call2 {af} : execOp a.eval { dst := d, op := .call { callee := .value (.func f), args := #[x, y], argTypes := ts }, type := t, pos := p, after := af, guard := g } = callFunc f #[a.eval x, a.eval y] := by
  simp [execOp, resolve, invoke, Deferred.ofValue, Act.eval]
theorem T.call3 {af} : execOp a.eval { dst := d, op := .call { callee := .value (.func f), args := #[x, y, z], argTypes := ts }, type := t, pos := p, after := af, guard := g } = callFunc f #[a.eval x, a.eval y, a.eval z] := by
  simp [execOp, resolve, invoke, Deferred.ofValue, Act.eval]
theorem T.call4 {af} : execOp a.eval { dst := d, op := .call { callee := .value (.func f), args := #[x, y, z, u], argTypes := ts }, type := t, pos := p, after := af, guard := g } = callFunc f #[a.eval x, a.eval y, a.eval z, a.eval u] := by
  simp [execOp, resolve, invoke, Deferred.ofValue, Act.eval]
theorem T.call5 {af} : execOp a.eval { dst := d, op := .call { callee := .value (.func f), args := #[x, y, z, u, v], argTypes := ts }, type := t, pos := p, after := af, guard := g } = callFunc f #[a.eval x, a.eval y, a.eval z, a.eval u, a.eval v] := by
  simp [execOp, resolve, invoke, Deferred.ofValue, Act.eval]
theorem T.blt1 {af} {m : Tmp} : execOp a.eval { dst := d, op := .call { callee := .builtin b, args := #[.tmp m], argTypes := ts }, type := t, pos := p, after := af, guard := g } = builtin b ts t #[false] #[a.eval (.tmp m)] := by
  simp [execOp, resolve, invoke, Act.eval]
attribute [go_sem ↓] T.call0 T.call1 T.call2 T.call3 T.call4 T.call5 T.blt1
end

end Go.Proofs.Ytoipfakcmnjenaa
