/-
  No cell of these rows narrows 'for every input' (looked for: loops, veiled, ifaces, maps, wideKeys, modest, calm, conditions, laid).
  DERIVED. THE GIVEN ROWS OF THIS SEAT. 4 by the template 'for every input the law returns true; each argument reads behind the call as it read before'; 0 by the template 'total and deterministic' (their statements: YtplfelfmkgjijaaTotals.lean).
  GIVEN WITH THE SEED: the statements are not yours to turn. If you find one false, say at which input.
  Laid BY PROGRAM, IN A SANDBOX (cutbox-rows.mjs): the forced cells as the released guide's own fill.sh prints them over the translation 57f04fdd441ece73… (all of the seat's roots in one cut). By AI agents, Wed Nov 11 2026. No macro, syntax, notation, axiom, sorry.
-/
import Derived.Test.YtplfelfmkgjijaaChecked
import GoSem.Claim
import GoSem.ClaimJoined
import GoSem.ClaimMapViews
import Derived.JoinedTies
import Derived.KernelRfl
namespace Go.Proofs.Ytplfelfmkgjijaa
/- THE CELL 'sum', in the pinned program and in every row, IS THE sha256 OF THE DUMP (.gsa) THAT YtplfelfmkgjijaaProg.lean LOADS. Nothing in Lean hashes anything: it is a label: what it is worth is what the hold of that sum in a sandbox is worth. -/
noncomputable def Try.pinned : Pinned := { name := "ytplfelfmkgjijaa", sum := "57f04fdd441ece73dc9c286902def3789b39a267c8ee7e1b0c1b32f20befb3d5", checked := Try.checked }
namespace Rows
def none {H : Type} : Left H := { results := [], args := [] }

/-- 'lethelaw23.NetFull': WHATEVER THE INPUT: true; the input reads as it did. -/
def netFullSpec : ChangeSpec := { name := "netFull", fn := fun _ => fun
  | [d1, d2] => { results := [.lit (.bool true)], args := [d1, d2] }
  | _ => none }
def netFullRow : OpenClaim := { program := "ytplfelfmkgjijaa", sum := "57f04fdd441ece73dc9c286902def3789b39a267c8ee7e1b0c1b32f20befb3d5", func := "lethe/lethelaw23.NetFull", spec := "netFull", unfollowed := true, recurses := true, apart := false }
def NetFullSaid : Prop := netFullRow.holds Try.pinned (OpenSpec.ofChange netFullSpec)

/-- ITS FALSE NEIGHBOUR: 'it returns false'. Refute it at one input. -/
def netFullWrong : ChangeSpec := { name := "netFull", fn := fun _ => fun
  | [d1, d2] => { results := [.lit (.bool false)], args := [d1, d2] }
  | _ => none }
def NetFullWrongFalsely : Prop := netFullRow.holds Try.pinned (OpenSpec.ofChange netFullWrong)

/-- 'lethelaw23.NetHands': WHATEVER THE INPUT: true; the input reads as it did. -/
def netHandsSpec : ChangeSpec := { name := "netHands", fn := fun _ => fun
  | [d1, d2] => { results := [.lit (.bool true)], args := [d1, d2] }
  | _ => none }
def netHandsRow : OpenClaim := { program := "ytplfelfmkgjijaa", sum := "57f04fdd441ece73dc9c286902def3789b39a267c8ee7e1b0c1b32f20befb3d5", func := "lethe/lethelaw23.NetHands", spec := "netHands", unfollowed := true, recurses := true, apart := false }
def NetHandsSaid : Prop := netHandsRow.holds Try.pinned (OpenSpec.ofChange netHandsSpec)

/-- ITS FALSE NEIGHBOUR: 'it returns false'. Refute it at one input. -/
def netHandsWrong : ChangeSpec := { name := "netHands", fn := fun _ => fun
  | [d1, d2] => { results := [.lit (.bool false)], args := [d1, d2] }
  | _ => none }
def NetHandsWrongFalsely : Prop := netHandsRow.holds Try.pinned (OpenSpec.ofChange netHandsWrong)

/-- 'lethelaw23.NetIsBag': WHATEVER THE INPUT: true; the input reads as it did. -/
def netIsBagSpec : ChangeSpec := { name := "netIsBag", fn := fun _ => fun
  | [d1, d2] => { results := [.lit (.bool true)], args := [d1, d2] }
  | _ => none }
def netIsBagRow : OpenClaim := { program := "ytplfelfmkgjijaa", sum := "57f04fdd441ece73dc9c286902def3789b39a267c8ee7e1b0c1b32f20befb3d5", func := "lethe/lethelaw23.NetIsBag", spec := "netIsBag", unfollowed := true, recurses := true, apart := false }
def NetIsBagSaid : Prop := netIsBagRow.holds Try.pinned (OpenSpec.ofChange netIsBagSpec)

/-- ITS FALSE NEIGHBOUR: 'it returns false'. Refute it at one input. -/
def netIsBagWrong : ChangeSpec := { name := "netIsBag", fn := fun _ => fun
  | [d1, d2] => { results := [.lit (.bool false)], args := [d1, d2] }
  | _ => none }
def NetIsBagWrongFalsely : Prop := netIsBagRow.holds Try.pinned (OpenSpec.ofChange netIsBagWrong)

/-- 'lethelaw23.NetExact': WHATEVER THE INPUT: true; the input reads as it did. -/
def netExactSpec : ChangeSpec := { name := "netExact", fn := fun _ => fun
  | [d1, d2, d3] => { results := [.lit (.bool true)], args := [d1, d2, d3] }
  | _ => none }
def netExactRow : OpenClaim := { program := "ytplfelfmkgjijaa", sum := "57f04fdd441ece73dc9c286902def3789b39a267c8ee7e1b0c1b32f20befb3d5", func := "lethe/lethelaw23.NetExact", spec := "netExact", unfollowed := true, recurses := true, apart := false }
def NetExactSaid : Prop := netExactRow.holds Try.pinned (OpenSpec.ofChange netExactSpec)

/-- ITS FALSE NEIGHBOUR: 'it returns false'. Refute it at one input. -/
def netExactWrong : ChangeSpec := { name := "netExact", fn := fun _ => fun
  | [d1, d2, d3] => { results := [.lit (.bool false)], args := [d1, d2, d3] }
  | _ => none }
def NetExactWrongFalsely : Prop := netExactRow.holds Try.pinned (OpenSpec.ofChange netExactWrong)

/- THE SECOND FORM. 'bulk': how many values and letters a reading holds, each counted each time it is reached (what is shared counts as often as it is met; a slice's spare places count too). A statement '..UptoSaid' is the law's where the arguments, and the package variables that the reading takes, are together of bulk at most 1048576: NARROWER than '..Said'. Prove '..Said' where nothing that the law and all that it calls make is longer than what came in: it says more and counts as full. Else prove '..UptoSaid'. A law counts once. -/
mutual
def uptoBulk {H : Type} : DataW H → Nat
  | .lit (.string bytes) => bytes.length + 1
  | .lit _ => 1
  | .nil => 1
  | .ptr d => uptoBulk d + 1
  | .slice elems spare => uptoBulkAll elems + uptoBulkAll spare + 1
  | .agg parts => uptoBulkAll parts + 1
  | .iface _ d => uptoBulk d + 1
  | .map entries => uptoBulkEntries entries + 1
  | .held _ => 1
def uptoBulkAll {H : Type} : List (DataW H) → Nat
  | [] => 0
  | d :: r => uptoBulk d + uptoBulkAll r
def uptoBulkEntries {H : Type} : List (Lit × DataW H) → Nat
  | [] => 0
  | x :: r => uptoBulkEntry x + uptoBulkEntries r
def uptoBulkEntry {H : Type} : Lit × DataW H → Nat
  | (.string bytes, d) => bytes.length + uptoBulk d + 1
  | (_, d) => uptoBulk d + 1
 end
def uptoSmall : (H : Type) → List (DataW H) → Bool := fun _ ds => decide (uptoBulkAll ds ≤ 1048576)
def OpenSpec.upto (s : _root_.Go.ChangeSpec) : _root_.Go.OpenSpec := { _root_.Go.OpenSpec.ofChange s with cond := some uptoSmall }

/-- 'lethelaw23.NetFull', WHERE WHAT IT READS IS OF BULK AT MOST 1048576: true; the input reads as it did. -/
def netFullUptoRow : OpenClaim := { program := "ytplfelfmkgjijaa", sum := "57f04fdd441ece73dc9c286902def3789b39a267c8ee7e1b0c1b32f20befb3d5", func := "lethe/lethelaw23.NetFull", spec := "netFull", unfollowed := true, recurses := true, apart := false, narrowed := true }
def NetFullUptoSaid : Prop := netFullUptoRow.holds Try.pinned (OpenSpec.upto netFullSpec)

/-- 'lethelaw23.NetHands', WHERE WHAT IT READS IS OF BULK AT MOST 1048576: true; the input reads as it did. -/
def netHandsUptoRow : OpenClaim := { program := "ytplfelfmkgjijaa", sum := "57f04fdd441ece73dc9c286902def3789b39a267c8ee7e1b0c1b32f20befb3d5", func := "lethe/lethelaw23.NetHands", spec := "netHands", unfollowed := true, recurses := true, apart := false, narrowed := true }
def NetHandsUptoSaid : Prop := netHandsUptoRow.holds Try.pinned (OpenSpec.upto netHandsSpec)

/-- 'lethelaw23.NetIsBag', WHERE WHAT IT READS IS OF BULK AT MOST 1048576: true; the input reads as it did. -/
def netIsBagUptoRow : OpenClaim := { program := "ytplfelfmkgjijaa", sum := "57f04fdd441ece73dc9c286902def3789b39a267c8ee7e1b0c1b32f20befb3d5", func := "lethe/lethelaw23.NetIsBag", spec := "netIsBag", unfollowed := true, recurses := true, apart := false, narrowed := true }
def NetIsBagUptoSaid : Prop := netIsBagUptoRow.holds Try.pinned (OpenSpec.upto netIsBagSpec)

/-- 'lethelaw23.NetExact', WHERE WHAT IT READS IS OF BULK AT MOST 1048576: true; the input reads as it did. -/
def netExactUptoRow : OpenClaim := { program := "ytplfelfmkgjijaa", sum := "57f04fdd441ece73dc9c286902def3789b39a267c8ee7e1b0c1b32f20befb3d5", func := "lethe/lethelaw23.NetExact", spec := "netExact", unfollowed := true, recurses := true, apart := false, narrowed := true }
def NetExactUptoSaid : Prop := netExactUptoRow.holds Try.pinned (OpenSpec.upto netExactSpec)

end Rows
end Go.Proofs.Ytplfelfmkgjijaa
