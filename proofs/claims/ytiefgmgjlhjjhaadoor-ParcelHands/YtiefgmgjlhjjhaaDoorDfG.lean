import Derived.Test.YtiefgmgjlhjjhaaDoorDaG
set_option linter.unusedVariables false
set_option linter.unusedSimpArgs false
namespace Go.Proofs.YtiefgmgjlhjjhaaDoor
open Go.RowKit

attribute [local irreducible] sm sumOf cnt chk partB ptB lgL
def isK (a : List UInt8) (id : Nat) (x : Rp) : Bool := decide (x.p = a) && decide (x.id = id)
structure FR (w : World) (L : List Rp) (a : List UInt8) (id : Nat) (i : Nat) (W : World) : Prop where
  le : i ≤ L.length
  eq : W = w
  no : ∀ j x, j < i → L[j]? = some x → isK a id x = false
theorem Ob.neB {w : World} {b0 : Nat} {v : Value} {bs : List UInt8} (h : Ob w b0 v bs) {q : Nat} {cs : List Value} {t : TypeId} (hb : Blk w q cs t) (ht : t ≠ 5) : v.ownBlock ≠ some q := fun e => by
  obtain ⟨_, cur, hc⟩ := h.lt e
  unfold Blk at hb
  rw [hb] at hc
  cases hc; exact ht rfl
end Go.Proofs.YtiefgmgjlhjjhaaDoor
set_option linter.unusedVariables false
set_option linter.unusedSimpArgs false
namespace Go.Proofs.YtiefgmgjlhjjhaaDoor
open Go.RowKit

attribute [local irreducible] sm sumOf cnt chk partB ptB lgL
end Go.Proofs.YtiefgmgjlhjjhaaDoor
set_option linter.unusedVariables false
set_option linter.unusedSimpArgs false
namespace Go.Proofs.YtiefgmgjlhjjhaaDoor
open Go.RowKit

attribute [local irreducible] sm sumOf cnt chk partB ptB lgL
def rmis (h : List Bool) (n : Nat) : List Nat := (List.range n).filter fun i => !(h.getD i false)
structure MiR (x : Rp) (w : World) (y : Nat × Value) (W : World) : Prop where
  le : y.1 ≤ x.n
  oi : Oi W w.heap.size y.2 (nI (rmis x.h y.1))
  be : Below w.heap.size w W
def notR (a : List UInt8) (x : Rp) : Bool := !decide (x.p = a)
def dpL (L : List Rp) (a : List UInt8) (j : Nat) : List Rp := L.take j ++ (L.drop j).filter (notR a)
structure DpR (w : World) (q : Nat) (most : Nat) (a : List UInt8) (L : List Rp) (v0 : Value) (y : Nat × Value) (W : World) : Prop where
  le : y.1 ≤ L.length
  rt : Rt W q y.2 most (dpL L a y.1)
  fx : Fx (fun k => k = q) w W
  nb : ∀ b, y.2.ownBlock = some b → v0.ownBlock = some b ∨ w.heap.size ≤ b
end Go.Proofs.YtiefgmgjlhjjhaaDoor
set_option linter.unusedVariables false
set_option linter.unusedSimpArgs false
namespace Go.Proofs.YtiefgmgjlhjjhaaDoor
open Go.RowKit

section
variable {P : Program} {n : Nat} {Q : Exit → Act → World → Prop} {lev : Nat → Nat} {e : List (Nat × Value)} {C : World → Prop} {l : List Oper} {S : Nat → World → Prop} {listed : Array Bool}
end
attribute [local irreducible] sm sumOf cnt chk partB ptB lgL
/-- A part as the document takes it apart. -/
structure Rq where
  id : Nat
  n : Nat
  i : Nat
  s : List UInt8
  v : Value
theorem Has.itemB {w : World} {v : Value} {bs : List UInt8} (h : Has w v bs) {i : Nat} {u : UInt8} (hi : bs[i]? = some u) : ∃ ad, (∀ W, (Instr.indexAt 24 v (.int .i64 (i : Int))).run Tryd.prog W = .ok (.pointer (some ad)) W) ∧ ∀ W, Below w.heap.size w W → (Instr.loadAt 5 (.pointer (some ad))).run Tryd.prog W = .ok (byt u) W := by
  have hil := (List.getElem?_eq_some_iff.1 hi).1
  rcases h with ⟨rfl, rfl⟩ | ⟨ad, cap, rfl, h2, h3⟩
  · simp at hi
  · refine ⟨ad.add i, fun W => idx24 _ _ _ _ hil W, fun W hW => ?_⟩
    have hc := (hW.cell (cell_lt (h3 i u hi))).trans (h3 i u hi)
    unfold byt at hc ⊢
    go_simp
end Go.Proofs.YtiefgmgjlhjjhaaDoor
set_option linter.unusedVariables false
set_option linter.unusedSimpArgs false
namespace Go.Proofs.YtiefgmgjlhjjhaaDoor
open Go.RowKit

attribute [local irreducible] sm sumOf cnt chk partB ptB lgL
def vr (vs : List Value) : List (List Value) := vs.map fun v => [v]
theorem vr_len (vs : List Value) : (vr vs).length = vs.length := by simp [vr]
theorem vr_app (a b : List Value) : vr (a ++ b) = vr a ++ vr b := by simp [vr]
structure RsR (w : World) (id : Nat) (T : List UInt8) (y : Nat × Value × List Value) (W : World) : Prop where
  le : y.1 ≤ cnt T
  ow : Lb 24 1 W w.heap.size y.2.1 (vr y.2.2)
  ln : y.2.2.length = y.1
  hs : ∀ (i : Nat) x, y.2.2[i]? = some x → Ob W w.heap.size x (ptB id T i)
  be : Below w.heap.size w W
end Go.Proofs.YtiefgmgjlhjjhaaDoor
