import Derived.Test.YtiefgmgjlhjjhaaDoorRsch
import Derived.Test.YtiefgmgjlhjjhaaDoorComp
namespace Go.Proofs.YtiefgmgjlhjjhaaDoor
open Go.RowKit

/-! The numbers of one round of the document's 'Block'. -/
theorem unot (e : BitVec 32) : 4294967295 - wn e = wn (~~~e) := by
  have := wlt e
  unfold wn
  rw [BitVec.toNat_not]
  omega
theorem uchs (e f g : BitVec 32) : (e &&& f) ^^^ (~~~e &&& g) = chs e f g := by
  unfold chs
  rw [BitVec.and_comm (~~~e) g]
theorem uadd2 (a b : BitVec 32) : (wn a + wn b) % 4294967296 = wn (a + b) := by
  unfold wn
  rw [BitVec.toNat_add]; omega
theorem uadd5 (a b c d e : BitVec 32) : (wn a + wn b + wn c + wn d + wn e) % 4294967296 = wn (a + b + c + d + e) := by
  unfold wn
  rw [BitVec.toNat_add, BitVec.toNat_add, BitVec.toNat_add, BitVec.toNat_add]; omega
/-- The two sums of a round: t1 of five words, t2 of two. -/
theorem round_e (d : BitVec 32) (t : Int) (x : BitVec 32) (ht : t % 4294967296 = wn x) : (wn d + t) % 4294967296 = wn (d + x) := by
  rw [← uadd2, ← ht]
  omega
theorem round_a (t u : Int) (x y : BitVec 32) (ht : t % 4294967296 = wn x) (hu : u % 4294967296 = wn y) : (t + u) % 4294967296 = wn (x + y) := by
  rw [← uadd2, ← ht, ← hu]
  omega
/-- The world holds the document's constants. -/
def Rst (w : World) : Prop := ∀ t, t < 64 → w.cell? ⟨2, t, none⟩ = some (.int .u64 (wn (kw t)))
theorem Rst.lt {w : World} (h : Rst w) : 2 < w.heap.size := cell_lt (h 0 (by omega))
theorem Rst.below {w w' : World} {n : Nat} (h : Rst w) (hb : Below n w w') (hn : 2 < n) : Rst w' := fun t ht => (hb.cell (p := ⟨2, t, none⟩) hn).trans (h t ht)
theorem Rst.drewN {w : World} (h : Rst w) (n : Nat) : Rst (w.drewN n) := h.below (below_drewN (Below.refl w.heap.size w) n) h.lt
end Go.Proofs.YtiefgmgjlhjjhaaDoor
