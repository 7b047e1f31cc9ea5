/-
  No cell of these rows narrows 'for every input' (looked for: loops, veiled, ifaces, maps, wideKeys, modest, calm, conditions, laid).
  DERIVED. THE GIVEN ROWS OF THIS SEAT. 5 by the template 'for every input the law returns true; each argument reads behind the call as it read before'; 0 by the template 'total and deterministic' (their statements: YtobfebpinkikdaaTotals.lean).
  GIVEN WITH THE SEED: the statements are not yours to turn. If you find one false, say at which input.
  Laid BY PROGRAM, IN A SANDBOX (cutbox-rows.mjs): the forced cells as the released guide's own fill.sh prints them over the translation d3bfe1e9a418ea9d… (all of the seat's roots in one cut). By AI agents, Wed Nov 11 2026. No macro, syntax, notation, axiom, sorry.
-/
import Derived.Test.YtobfebpinkikdaaChecked
import GoSem.Claim
import GoSem.ClaimJoined
import GoSem.ClaimMapViews
import Derived.JoinedTies
import Derived.KernelRfl
namespace Go.Proofs.Ytobfebpinkikdaa
/- THE CELL 'sum', in the pinned program and in every row, IS THE sha256 OF THE DUMP (.gsa) THAT YtobfebpinkikdaaProg.lean LOADS. Nothing in Lean hashes anything: it is a label: what it is worth is what the hold of that sum in a sandbox is worth. -/
noncomputable def Try.pinned : Pinned := { name := "ytobfebpinkikdaa", sum := "d3bfe1e9a418ea9d1dd58f5cf93aee5f9f99394dd4e58cffef549201e44c16e0", checked := Try.checked }
namespace Rows
def none {H : Type} : Left H := { results := [], args := [] }

/-- 'lethelaw14.HeaderOrder': WHATEVER THE INPUT: true; the input reads as it did. -/
def headerOrderSpec : ChangeSpec := { name := "headerOrder", fn := fun _ => fun
  | [d1, d2, d3] => { results := [.lit (.bool true)], args := [d1, d2, d3] }
  | _ => none }
def headerOrderRow : OpenClaim := { program := "ytobfebpinkikdaa", sum := "d3bfe1e9a418ea9d1dd58f5cf93aee5f9f99394dd4e58cffef549201e44c16e0", func := "lethe/lethelaw14.HeaderOrder", spec := "headerOrder", apart := false }
def HeaderOrderSaid : Prop := headerOrderRow.holds Try.pinned (OpenSpec.ofChange headerOrderSpec)

/-- ITS FALSE NEIGHBOUR: 'it returns false'. Refute it at one input. -/
def headerOrderWrong : ChangeSpec := { name := "headerOrder", fn := fun _ => fun
  | [d1, d2, d3] => { results := [.lit (.bool false)], args := [d1, d2, d3] }
  | _ => none }
def HeaderOrderWrongFalsely : Prop := headerOrderRow.holds Try.pinned (OpenSpec.ofChange headerOrderWrong)

/-- 'lethelaw14.HeaderCut': WHATEVER THE INPUT: true; the input reads as it did. -/
def headerCutSpec : ChangeSpec := { name := "headerCut", fn := fun _ => fun
  | [d1, d2, d3, d4] => { results := [.lit (.bool true)], args := [d1, d2, d3, d4] }
  | _ => none }
def headerCutRow : OpenClaim := { program := "ytobfebpinkikdaa", sum := "d3bfe1e9a418ea9d1dd58f5cf93aee5f9f99394dd4e58cffef549201e44c16e0", func := "lethe/lethelaw14.HeaderCut", spec := "headerCut", apart := false }
def HeaderCutSaid : Prop := headerCutRow.holds Try.pinned (OpenSpec.ofChange headerCutSpec)

/-- ITS FALSE NEIGHBOUR: 'it returns false'. Refute it at one input. -/
def headerCutWrong : ChangeSpec := { name := "headerCut", fn := fun _ => fun
  | [d1, d2, d3, d4] => { results := [.lit (.bool false)], args := [d1, d2, d3, d4] }
  | _ => none }
def HeaderCutWrongFalsely : Prop := headerCutRow.holds Try.pinned (OpenSpec.ofChange headerCutWrong)

/-- 'lethelaw14.HeaderOneForm': WHATEVER THE INPUT: true; the input reads as it did. -/
def headerOneFormSpec : ChangeSpec := { name := "headerOneForm", fn := fun _ => fun
  | [d1, d2] => { results := [.lit (.bool true)], args := [d1, d2] }
  | _ => none }
def headerOneFormRow : OpenClaim := { program := "ytobfebpinkikdaa", sum := "d3bfe1e9a418ea9d1dd58f5cf93aee5f9f99394dd4e58cffef549201e44c16e0", func := "lethe/lethelaw14.HeaderOneForm", spec := "headerOneForm", apart := false }
def HeaderOneFormSaid : Prop := headerOneFormRow.holds Try.pinned (OpenSpec.ofChange headerOneFormSpec)

/-- ITS FALSE NEIGHBOUR: 'it returns false'. Refute it at one input. -/
def headerOneFormWrong : ChangeSpec := { name := "headerOneForm", fn := fun _ => fun
  | [d1, d2] => { results := [.lit (.bool false)], args := [d1, d2] }
  | _ => none }
def HeaderOneFormWrongFalsely : Prop := headerOneFormRow.holds Try.pinned (OpenSpec.ofChange headerOneFormWrong)

/-- 'lethelaw14.HeaderBack': WHATEVER THE INPUT: true; the input reads as it did. -/
def headerBackSpec : ChangeSpec := { name := "headerBack", fn := fun _ => fun
  | [d1, d2] => { results := [.lit (.bool true)], args := [d1, d2] }
  | _ => none }
def headerBackRow : OpenClaim := { program := "ytobfebpinkikdaa", sum := "d3bfe1e9a418ea9d1dd58f5cf93aee5f9f99394dd4e58cffef549201e44c16e0", func := "lethe/lethelaw14.HeaderBack", spec := "headerBack", apart := false }
def HeaderBackSaid : Prop := headerBackRow.holds Try.pinned (OpenSpec.ofChange headerBackSpec)

/-- ITS FALSE NEIGHBOUR: 'it returns false'. Refute it at one input. -/
def headerBackWrong : ChangeSpec := { name := "headerBack", fn := fun _ => fun
  | [d1, d2] => { results := [.lit (.bool false)], args := [d1, d2] }
  | _ => none }
def HeaderBackWrongFalsely : Prop := headerBackRow.holds Try.pinned (OpenSpec.ofChange headerBackWrong)

/-- 'lethelaw14.HeaderExact': WHATEVER THE INPUT: true; the input reads as it did. -/
def headerExactSpec : ChangeSpec := { name := "headerExact", fn := fun _ => fun
  | [d] => { results := [.lit (.bool true)], args := [d] }
  | _ => none }
def headerExactRow : OpenClaim := { program := "ytobfebpinkikdaa", sum := "d3bfe1e9a418ea9d1dd58f5cf93aee5f9f99394dd4e58cffef549201e44c16e0", func := "lethe/lethelaw14.HeaderExact", spec := "headerExact", apart := false }
def HeaderExactSaid : Prop := headerExactRow.holds Try.pinned (OpenSpec.ofChange headerExactSpec)

/-- ITS FALSE NEIGHBOUR: 'it returns false'. Refute it at one input. -/
def headerExactWrong : ChangeSpec := { name := "headerExact", fn := fun _ => fun
  | [d] => { results := [.lit (.bool false)], args := [d] }
  | _ => none }
def HeaderExactWrongFalsely : Prop := headerExactRow.holds Try.pinned (OpenSpec.ofChange headerExactWrong)

/- THE SECOND FORM. 'bulk': how many values and letters a reading holds, each counted each time it is reached (what is shared counts as often as it is met; a slice's spare places count too). A statement '..UptoSaid' is the law's where the arguments, and the package variables that the reading takes, are together of bulk at most 1048576: NARROWER than '..Said'. Prove '..Said' where nothing that the law and all that it calls make is longer than what came in: it says more and counts as full. Else prove '..UptoSaid'. A law counts once. -/
mutual
def uptoBulk {H : Type} : DataW H → Nat
  | .lit (.string bytes) => bytes.length + 1
  | .lit _ => 1
  | .nil => 1
  | .ptr d => uptoBulk d + 1
  | .slice elems spare => uptoBulkAll elems + uptoBulkAll spare + 1
  | .agg parts => uptoBulkAll parts + 1
  | .iface _ d => uptoBulk d + 1
  | .map entries => uptoBulkEntries entries + 1
  | .held _ => 1
def uptoBulkAll {H : Type} : List (DataW H) → Nat
  | [] => 0
  | d :: r => uptoBulk d + uptoBulkAll r
def uptoBulkEntries {H : Type} : List (Lit × DataW H) → Nat
  | [] => 0
  | x :: r => uptoBulkEntry x + uptoBulkEntries r
def uptoBulkEntry {H : Type} : Lit × DataW H → Nat
  | (.string bytes, d) => bytes.length + uptoBulk d + 1
  | (_, d) => uptoBulk d + 1
 end
def uptoSmall : (H : Type) → List (DataW H) → Bool := fun _ ds => decide (uptoBulkAll ds ≤ 1048576)
def OpenSpec.upto (s : _root_.Go.ChangeSpec) : _root_.Go.OpenSpec := { _root_.Go.OpenSpec.ofChange s with cond := some uptoSmall }

/-- 'lethelaw14.HeaderOrder', WHERE WHAT IT READS IS OF BULK AT MOST 1048576: true; the input reads as it did. -/
def headerOrderUptoRow : OpenClaim := { program := "ytobfebpinkikdaa", sum := "d3bfe1e9a418ea9d1dd58f5cf93aee5f9f99394dd4e58cffef549201e44c16e0", func := "lethe/lethelaw14.HeaderOrder", spec := "headerOrder", apart := false, narrowed := true }
def HeaderOrderUptoSaid : Prop := headerOrderUptoRow.holds Try.pinned (OpenSpec.upto headerOrderSpec)

/-- 'lethelaw14.HeaderCut', WHERE WHAT IT READS IS OF BULK AT MOST 1048576: true; the input reads as it did. -/
def headerCutUptoRow : OpenClaim := { program := "ytobfebpinkikdaa", sum := "d3bfe1e9a418ea9d1dd58f5cf93aee5f9f99394dd4e58cffef549201e44c16e0", func := "lethe/lethelaw14.HeaderCut", spec := "headerCut", apart := false, narrowed := true }
def HeaderCutUptoSaid : Prop := headerCutUptoRow.holds Try.pinned (OpenSpec.upto headerCutSpec)

/-- 'lethelaw14.HeaderOneForm', WHERE WHAT IT READS IS OF BULK AT MOST 1048576: true; the input reads as it did. -/
def headerOneFormUptoRow : OpenClaim := { program := "ytobfebpinkikdaa", sum := "d3bfe1e9a418ea9d1dd58f5cf93aee5f9f99394dd4e58cffef549201e44c16e0", func := "lethe/lethelaw14.HeaderOneForm", spec := "headerOneForm", apart := false, narrowed := true }
def HeaderOneFormUptoSaid : Prop := headerOneFormUptoRow.holds Try.pinned (OpenSpec.upto headerOneFormSpec)

/-- 'lethelaw14.HeaderBack', WHERE WHAT IT READS IS OF BULK AT MOST 1048576: true; the input reads as it did. -/
def headerBackUptoRow : OpenClaim := { program := "ytobfebpinkikdaa", sum := "d3bfe1e9a418ea9d1dd58f5cf93aee5f9f99394dd4e58cffef549201e44c16e0", func := "lethe/lethelaw14.HeaderBack", spec := "headerBack", apart := false, narrowed := true }
def HeaderBackUptoSaid : Prop := headerBackUptoRow.holds Try.pinned (OpenSpec.upto headerBackSpec)

/-- 'lethelaw14.HeaderExact', WHERE WHAT IT READS IS OF BULK AT MOST 1048576: true; the input reads as it did. -/
def headerExactUptoRow : OpenClaim := { program := "ytobfebpinkikdaa", sum := "d3bfe1e9a418ea9d1dd58f5cf93aee5f9f99394dd4e58cffef549201e44c16e0", func := "lethe/lethelaw14.HeaderExact", spec := "headerExact", apart := false, narrowed := true }
def HeaderExactUptoSaid : Prop := headerExactUptoRow.holds Try.pinned (OpenSpec.upto headerExactSpec)

end Rows
end Go.Proofs.Ytobfebpinkikdaa
