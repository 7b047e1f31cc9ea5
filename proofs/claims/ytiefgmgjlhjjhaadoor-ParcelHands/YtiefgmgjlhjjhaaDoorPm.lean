import Derived.Test.YtiefgmgjlhjjhaaDoorPl
set_option linter.unusedVariables false
set_option linter.unusedSimpArgs false
namespace Go.Proofs.YtiefgmgjlhjjhaaDoor
open Go.RowKit

/-- Without a peer's parcels. -/
def notP (a : List UInt8) (m : Me) : Bool := !decide (m.p = a)
structure DR (w : World) (p r most it : Nat) (a : List UInt8) (E : List Me) (c : Nat) (x : List Nat × List Me) (W : World) : Prop where
  tr : Tr W p r most x.2 c
  itr : W.heap[it]? = some (.mapIter (some r) c x.1.toArray c)
  nd : x.1.Nodup
  sub : ∀ b ∈ x.1, b ∈ E.map Me.b
  sl : x.2.Sublist E
  fl : x.2.filter (notP a) = E.filter (notP a)
  un : ∀ m ∈ x.2, m.p = a → m.b ∉ x.1
  fx : Fx (fun k => k = r) w W
end Go.Proofs.YtiefgmgjlhjjhaaDoor
