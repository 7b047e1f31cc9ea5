import Derived.Test.YtablmkijlpoaaaaDoorIsHashPos
import Derived.Test.YtablmkijlpoaaaaDoorIsHashNil
namespace Go.Proofs.YtablmkijlpoaaaaDoor
open Go.RowKit

theorem ishash_any (vk va vb : Value) (lk la lb : List UInt8) (cut : Int) (w : World) (hk : Has w vk lk) (ha : Has w va la) (hb : Has w vb lb) (hK : Kst w) :
    Calls Tryd.prog 5 #[vk, va, vb, .int .i64 cut] w fun e w' => e = .returned (.bool true) ∧ Below w.heap.size w w' := by
  rcases Nat.eq_zero_or_pos lk.length with h | h
  · exact ishash_nil vk va vb lk la lb h cut w hk ha hb hK
  · exact ishash_pos vk va vb lk la lb h cut w hk ha hb hK
end Go.Proofs.YtablmkijlpoaaaaDoor
