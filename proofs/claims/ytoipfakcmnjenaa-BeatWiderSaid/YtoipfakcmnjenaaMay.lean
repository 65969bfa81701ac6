import Derived.Test.YtoipfakcmnjenaaQui
/- Quiet regions: an operation whose guard is a Boolean that is not known. -/
namespace Go.Proofs.Ytoipfakcmnjenaa
open Go.RowKit

section
variable {F : Fence} {n : Nat} {P : Program} {ops : Array Oper} {Q : Exit → Act → World → Prop} {md : Region.Mode} {S : World → Prop}
theorem T.qMay (b : Bool) {i : Nat} {d : Option Tmp} {oi : Oper} {v : Value} {f m g : Nat} {listed : Array Bool} {a : Act} (hi : ops[i]? = some oi) (hd : oi.dst = d) (hm : late md ops m = true) (him : i < m) (hcl : Closed md ops listed)
    (hs : Region.noSelect ops = true) (hf : Region.free md ops listed i = true) (hr : (Region.ready md ops listed).contains i = true)
    (hw : Region.wanted oi (yielded ops a.tmps) = b) (hy : b = true → ∀ w, S w → T.qUp F n P S v ((execOp a.eval oi).run P w)) (ha : ∀ w f, oi.about P w a.eval = some f → F.fn f)
    (h : ∀ u, (b = true → u = v) → Closed md ops (listed.setIfInBounds i true) → T.anyQ F n P md ops S m (T.tail F n P md ops Q S m g) f (listed.setIfInBounds i true) (a.put d u)) : T.anyQ F n P md ops S m (T.tail F n P md ops Q S m g) (f + 1) listed a := by
  cases b with
  | false => exact T.qSkip hi hd hm him hcl hs hf hr hw ha (h undef (fun q => by cases q))
  | true => exact T.qTake hi hd hm him hcl hs hf hr hw (hy rfl) ha (h v (fun _ => rfl))
end

end Go.Proofs.Ytoipfakcmnjenaa
