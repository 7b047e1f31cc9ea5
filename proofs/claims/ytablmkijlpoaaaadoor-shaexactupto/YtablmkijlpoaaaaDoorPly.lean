import Derived.Test.YtablmkijlpoaaaaDoorPls
namespace Go.Proofs.YtablmkijlpoaaaaDoor
open Go.RowKit

/-- 'plays', whatever the kind. -/
theorem plays_any (p : Nat) (hs : List Nat) (vs : List Value) (ms : List (List UInt8)) (kind which tw : Int) (vB vC : Value) (bB bC : List UInt8) (st : List (BitVec 32)) (bl : List UInt8) (L : Nat) (w x : World)
    (hT : Tb w x p hs vs ms ms) (hms : ms.length = 3) (hst : st.length = 8) (hbl : bl.length = 64) (hB : Has w vB bB) (hC : Has w vC bC) (hK : Kst w) (hR : Rst w) (hS : Bst w) (hlen : ∀ i, i < 3 → (ms.getD i []).length ≤ L)
    (hL : L + bB.length ≤ 100000000000000) (hL2 : bB.length + bC.length + bB.length ≤ 100000000000000) :
    Calls Tryd.prog 11 #[.pointer (some ⟨p, 0, none⟩), .agg (opC kind which tw vB vC st bl).toArray] x fun e y => e = .returned (.bool true) ∧ ∃ hs' vs' ms', Tb w y p hs' vs' ms' ms' ∧ ms'.length = 3 ∧ ∀ i, i < 3 → (ms'.getD i []).length ≤ L + bB.length := by
  by_cases k1 : kind = 1
  · subst k1
    exact plays_sum p hs vs ms which tw vB vC bB bC st bl L bB.length w x hT hms hB hC hK hR hS hlen hL2
  · by_cases k2 : kind = 2
    · subst k2
      exact plays_comp p hs vs ms which tw vB vC bB.length st bl L w x hT hms hst hbl hK hR hlen
    · exact plays_else p hs vs ms kind which tw k1 k2 vB vC bB st bl L w x hT hms hst hbl hB hK hR hS hlen hL
end Go.Proofs.YtablmkijlpoaaaaDoor
