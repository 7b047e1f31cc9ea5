import Derived.Test.YtiefgmgjlhjjhaaDoorOz
import Derived.Test.YtiefgmgjlhjjhaaDoorSched
import Derived.Test.YtiefgmgjlhjjhaaDoorComp
import Derived.Test.YtiefgmgjlhjjhaaDoorRunG
set_option linter.unusedVariables false
set_option linter.unusedSimpArgs false
namespace Go.Proofs.YtiefgmgjlhjjhaaDoor
open Go.RowKit

section
variable {P : Program} {n : Nat} {Q : Exit → Act → World → Prop} {l : List Oper} {e : List (Nat × Value)}
def left (l : List Oper) (listed : Array Bool) : Nat := ((List.range l.length).filter fun i => !listed.getD i false).length
end
end Go.Proofs.YtiefgmgjlhjjhaaDoor
namespace Go.Proofs.YtiefgmgjlhjjhaaDoor
open Go.RowKit

/-! The document's turn and move: a word is a number below 2^32, halved n times. -/
end Go.Proofs.YtiefgmgjlhjjhaaDoor
namespace Go.Proofs.YtiefgmgjlhjjhaaDoor
open Go.RowKit

/-! The document's words: numbers of 64 bits below 2^32. -/
def uv (x : BitVec 32) : Value := .int .u64 (wn x)
def uvs (l : List (BitVec 32)) : List Value := l.map uv
/-- The blocks of the document's 'schedule'. -/
structure Rsh (w wx : World) (b : List UInt8) (L : List (BitVec 32)) : Prop where
  bl : Blk wx w.heap.size (b.map byt) 134
  re : Blk wx (w.heap.size + 1) (uvs z64) 145
  wo : Blk wx (w.heap.size + 1 + 1) (uvs L) 145
  be : Below w.heap.size w wx
end Go.Proofs.YtiefgmgjlhjjhaaDoor
namespace Go.Proofs.YtiefgmgjlhjjhaaDoor
open Go.RowKit

/-! The numbers of one round of the document's 'Block'. -/
/-- The world holds the document's constants. -/
def Rst (w : World) : Prop := ∀ t, t < 64 → w.cell? ⟨2, t, none⟩ = some (.int .u64 (wn (kw t)))
end Go.Proofs.YtiefgmgjlhjjhaaDoor
namespace Go.Proofs.YtiefgmgjlhjjhaaDoor
open Go.RowKit

/-- The blocks of the document's 'Block'. -/
structure Rbk (w wx : World) (g h : Nat) (s W V : List (BitVec 32)) : Prop where
  st : Blk wx w.heap.size (wvs s) 132
  re : Blk wx (w.heap.size + 1 + 1) (wvs z8) 132
  wo : Blk wx g (uvs W) 145
  va : Blk wx h (uvs V) 144
  be : Below w.heap.size w wx
  gt : w.heap.size + 1 + 1 < g
  ht : g < h
/-- The words, moved up so far. -/
def mvs (V : List (BitVec 32)) : Nat → List (BitVec 32)
  | 0 => V
  | k + 1 => (mvs V k).set (7 - k) ((mvs V k).getD (6 - k) 0)
end Go.Proofs.YtiefgmgjlhjjhaaDoor
namespace Go.Proofs.YtiefgmgjlhjjhaaDoor
open Go.RowKit

/-- The world holds the document's first words. -/
def Bst (w : World) : Prop := ∀ t, t < 8 → w.cell? ⟨1, t, none⟩ = some (.int .u64 (wn (iv.getD t 0)))
/-- A result of the function at g, a row that is filled at d. -/
structure Fl (w x : World) (g d : Nat) (Z L : List Value) (t : TypeId) : Prop where
  re : Blk x g Z t
  bl : Blk x d L t
  be : Below w.heap.size w x
  lg : w.heap.size ≤ g
  gd : g < d
end Go.Proofs.YtiefgmgjlhjjhaaDoor
namespace Go.Proofs.YtiefgmgjlhjjhaaDoor
open Go.RowKit

/-- An equation that the walk does not look into. -/
structure Lk {α : Type} (a b : α) : Prop where
  h : a = b

/-- The blocks of the document's 'bytesOf'. -/
structure Bo (w x : World) (s : List (BitVec 32)) (L : List UInt8) : Prop where
  st : Blk x w.heap.size (wvs s) 132
  re : Blk x (w.heap.size + 1) (z32.map byt) 91
  bl : Blk x (w.heap.size + 1 + 1) (L.map byt) 91
  be : Below w.heap.size w x
end Go.Proofs.YtiefgmgjlhjjhaaDoor
namespace Go.Proofs.YtiefgmgjlhjjhaaDoor
open Go.RowKit

/-- What is left of the number. -/
def nq (x j : Nat) : Int := ((x / 256 ^ j : Nat) : Int)
/-- The padded bytes so far, and the tail. -/
structure Pd (w x : World) (v : Value) (d : Nat) (M L : List UInt8) : Prop where
  ow : Own x w.heap.size v M
  bl : Blk x d (L.map byt) 53
  be : Below w.heap.size w x
  ld : w.heap.size ≤ d
  ne : ∀ k, v.ownBlock = some k → k ≠ d
end Go.Proofs.YtiefgmgjlhjjhaaDoor
namespace Go.Proofs.YtiefgmgjlhjjhaaDoor
open Go.RowKit

/-- The state of the document's 'Sum' at d, beside the padded bytes and the result. -/
structure Rs (w x : World) (d : Nat) (S : List (BitVec 32)) (PM : List UInt8) (v : Value) : Prop where
  re : Blk x w.heap.size (z32.map byt) 91
  st : Blk x d (wvs S) 132
  ha : Has x v PM
  be : Below w.heap.size w x
  ld : w.heap.size < d
  ne : PM = [] ∨ v.ownBlock ≠ some d
end Go.Proofs.YtiefgmgjlhjjhaaDoor
