/-
  No cell of these rows narrows 'for every input' (looked for: loops, veiled, ifaces, maps, wideKeys, modest, calm, conditions, laid).
  DERIVED. THE GIVEN ROWS OF THIS SEAT. 6 by the template 'for every input the law returns true; each argument reads behind the call as it read before'; 0 by the template 'total and deterministic' (their statements: YtacimelcmkhhlaaTotals.lean).
  GIVEN WITH THE SEED: the statements are not yours to turn. If you find one false, say at which input.
  Laid BY PROGRAM, IN A SANDBOX (cutbox-rows.mjs): the forced cells as the released guide's own fill.sh prints them over the translation 5396e76d41f8ac49… (all of the seat's roots in one cut). By AI agents, Wed Nov 11 2026. No macro, syntax, notation, axiom, sorry.
-/
import Derived.Test.YtacimelcmkhhlaaChecked
import GoSem.Claim
import GoSem.ClaimJoined
import GoSem.ClaimMapViews
import Derived.JoinedTies
import Derived.KernelRfl
namespace Go.Proofs.Ytacimelcmkhhlaa
/- THE CELL 'sum', in the pinned program and in every row, IS THE sha256 OF THE DUMP (.gsa) THAT YtacimelcmkhhlaaProg.lean LOADS. Nothing in Lean hashes anything: it is a label: what it is worth is what the hold of that sum in a sandbox is worth. -/
noncomputable def Try.pinned : Pinned := { name := "ytacimelcmkhhlaa", sum := "5396e76d41f8ac49a9e3dd37fa339d7f4727eac43464ebe26232bc521144b6af", checked := Try.checked }
namespace Rows
def none {H : Type} : Left H := { results := [], args := [] }

/-- 'lethelaw18.StateRules': WHATEVER THE INPUT: true; the input reads as it did. -/
def stateRulesSpec : ChangeSpec := { name := "stateRules", fn := fun _ => fun
  | [d1, d2, d3] => { results := [.lit (.bool true)], args := [d1, d2, d3] }
  | _ => none }
def stateRulesRow : OpenClaim := { program := "ytacimelcmkhhlaa", sum := "5396e76d41f8ac49a9e3dd37fa339d7f4727eac43464ebe26232bc521144b6af", func := "lethe/lethelaw18.StateRules", spec := "stateRules", apart := false }
def StateRulesSaid : Prop := stateRulesRow.holds Try.pinned (OpenSpec.ofChange stateRulesSpec)

/-- ITS FALSE NEIGHBOUR: 'it returns false'. Refute it at one input. -/
def stateRulesWrong : ChangeSpec := { name := "stateRules", fn := fun _ => fun
  | [d1, d2, d3] => { results := [.lit (.bool false)], args := [d1, d2, d3] }
  | _ => none }
def StateRulesWrongFalsely : Prop := stateRulesRow.holds Try.pinned (OpenSpec.ofChange stateRulesWrong)

/-- 'lethelaw18.StateLimits': WHATEVER THE INPUT: true; the input reads as it did. -/
def stateLimitsSpec : ChangeSpec := { name := "stateLimits", fn := fun _ => fun
  | [d] => { results := [.lit (.bool true)], args := [d] }
  | _ => none }
def stateLimitsRow : OpenClaim := { program := "ytacimelcmkhhlaa", sum := "5396e76d41f8ac49a9e3dd37fa339d7f4727eac43464ebe26232bc521144b6af", func := "lethe/lethelaw18.StateLimits", spec := "stateLimits", apart := false }
def StateLimitsSaid : Prop := stateLimitsRow.holds Try.pinned (OpenSpec.ofChange stateLimitsSpec)

/-- ITS FALSE NEIGHBOUR: 'it returns false'. Refute it at one input. -/
def stateLimitsWrong : ChangeSpec := { name := "stateLimits", fn := fun _ => fun
  | [d] => { results := [.lit (.bool false)], args := [d] }
  | _ => none }
def StateLimitsWrongFalsely : Prop := stateLimitsRow.holds Try.pinned (OpenSpec.ofChange stateLimitsWrong)

/-- 'lethelaw18.StateBack': WHATEVER THE INPUT: true; the input reads as it did. -/
def stateBackSpec : ChangeSpec := { name := "stateBack", fn := fun _ => fun
  | [d1, d2, d3] => { results := [.lit (.bool true)], args := [d1, d2, d3] }
  | _ => none }
def stateBackRow : OpenClaim := { program := "ytacimelcmkhhlaa", sum := "5396e76d41f8ac49a9e3dd37fa339d7f4727eac43464ebe26232bc521144b6af", func := "lethe/lethelaw18.StateBack", spec := "stateBack", apart := false }
def StateBackSaid : Prop := stateBackRow.holds Try.pinned (OpenSpec.ofChange stateBackSpec)

/-- ITS FALSE NEIGHBOUR: 'it returns false'. Refute it at one input. -/
def stateBackWrong : ChangeSpec := { name := "stateBack", fn := fun _ => fun
  | [d1, d2, d3] => { results := [.lit (.bool false)], args := [d1, d2, d3] }
  | _ => none }
def StateBackWrongFalsely : Prop := stateBackRow.holds Try.pinned (OpenSpec.ofChange stateBackWrong)

/-- 'lethelaw18.StateCut': WHATEVER THE INPUT: true; the input reads as it did. -/
def stateCutSpec : ChangeSpec := { name := "stateCut", fn := fun _ => fun
  | [d1, d2, d3, d4] => { results := [.lit (.bool true)], args := [d1, d2, d3, d4] }
  | _ => none }
def stateCutRow : OpenClaim := { program := "ytacimelcmkhhlaa", sum := "5396e76d41f8ac49a9e3dd37fa339d7f4727eac43464ebe26232bc521144b6af", func := "lethe/lethelaw18.StateCut", spec := "stateCut", apart := false }
def StateCutSaid : Prop := stateCutRow.holds Try.pinned (OpenSpec.ofChange stateCutSpec)

/-- ITS FALSE NEIGHBOUR: 'it returns false'. Refute it at one input. -/
def stateCutWrong : ChangeSpec := { name := "stateCut", fn := fun _ => fun
  | [d1, d2, d3, d4] => { results := [.lit (.bool false)], args := [d1, d2, d3, d4] }
  | _ => none }
def StateCutWrongFalsely : Prop := stateCutRow.holds Try.pinned (OpenSpec.ofChange stateCutWrong)

/-- 'lethelaw18.StateOneForm': WHATEVER THE INPUT: true; the input reads as it did. -/
def stateOneFormSpec : ChangeSpec := { name := "stateOneForm", fn := fun _ => fun
  | [d] => { results := [.lit (.bool true)], args := [d] }
  | _ => none }
def stateOneFormRow : OpenClaim := { program := "ytacimelcmkhhlaa", sum := "5396e76d41f8ac49a9e3dd37fa339d7f4727eac43464ebe26232bc521144b6af", func := "lethe/lethelaw18.StateOneForm", spec := "stateOneForm", apart := false }
def StateOneFormSaid : Prop := stateOneFormRow.holds Try.pinned (OpenSpec.ofChange stateOneFormSpec)

/-- ITS FALSE NEIGHBOUR: 'it returns false'. Refute it at one input. -/
def stateOneFormWrong : ChangeSpec := { name := "stateOneForm", fn := fun _ => fun
  | [d] => { results := [.lit (.bool false)], args := [d] }
  | _ => none }
def StateOneFormWrongFalsely : Prop := stateOneFormRow.holds Try.pinned (OpenSpec.ofChange stateOneFormWrong)

/-- 'lethelaw18.StateExact': WHATEVER THE INPUT: true; the input reads as it did. -/
def stateExactSpec : ChangeSpec := { name := "stateExact", fn := fun _ => fun
  | [d] => { results := [.lit (.bool true)], args := [d] }
  | _ => none }
def stateExactRow : OpenClaim := { program := "ytacimelcmkhhlaa", sum := "5396e76d41f8ac49a9e3dd37fa339d7f4727eac43464ebe26232bc521144b6af", func := "lethe/lethelaw18.StateExact", spec := "stateExact", apart := false }
def StateExactSaid : Prop := stateExactRow.holds Try.pinned (OpenSpec.ofChange stateExactSpec)

/-- ITS FALSE NEIGHBOUR: 'it returns false'. Refute it at one input. -/
def stateExactWrong : ChangeSpec := { name := "stateExact", fn := fun _ => fun
  | [d] => { results := [.lit (.bool false)], args := [d] }
  | _ => none }
def StateExactWrongFalsely : Prop := stateExactRow.holds Try.pinned (OpenSpec.ofChange stateExactWrong)

/- THE SECOND FORM. 'bulk': how many values and letters a reading holds, each counted each time it is reached (what is shared counts as often as it is met; a slice's spare places count too). A statement '..UptoSaid' is the law's where the arguments, and the package variables that the reading takes, are together of bulk at most 1048576: NARROWER than '..Said'. Prove '..Said' where nothing that the law and all that it calls make is longer than what came in: it says more and counts as full. Else prove '..UptoSaid'. A law counts once. -/
mutual
def uptoBulk {H : Type} : DataW H → Nat
  | .lit (.string bytes) => bytes.length + 1
  | .lit _ => 1
  | .nil => 1
  | .ptr d => uptoBulk d + 1
  | .slice elems spare => uptoBulkAll elems + uptoBulkAll spare + 1
  | .agg parts => uptoBulkAll parts + 1
  | .iface _ d => uptoBulk d + 1
  | .map entries => uptoBulkEntries entries + 1
  | .held _ => 1
def uptoBulkAll {H : Type} : List (DataW H) → Nat
  | [] => 0
  | d :: r => uptoBulk d + uptoBulkAll r
def uptoBulkEntries {H : Type} : List (Lit × DataW H) → Nat
  | [] => 0
  | x :: r => uptoBulkEntry x + uptoBulkEntries r
def uptoBulkEntry {H : Type} : Lit × DataW H → Nat
  | (.string bytes, d) => bytes.length + uptoBulk d + 1
  | (_, d) => uptoBulk d + 1
 end
def uptoSmall : (H : Type) → List (DataW H) → Bool := fun _ ds => decide (uptoBulkAll ds ≤ 1048576)
def OpenSpec.upto (s : _root_.Go.ChangeSpec) : _root_.Go.OpenSpec := { _root_.Go.OpenSpec.ofChange s with cond := some uptoSmall }

/-- 'lethelaw18.StateRules', WHERE WHAT IT READS IS OF BULK AT MOST 1048576: true; the input reads as it did. -/
def stateRulesUptoRow : OpenClaim := { program := "ytacimelcmkhhlaa", sum := "5396e76d41f8ac49a9e3dd37fa339d7f4727eac43464ebe26232bc521144b6af", func := "lethe/lethelaw18.StateRules", spec := "stateRules", apart := false, narrowed := true }
def StateRulesUptoSaid : Prop := stateRulesUptoRow.holds Try.pinned (OpenSpec.upto stateRulesSpec)

/-- 'lethelaw18.StateLimits', WHERE WHAT IT READS IS OF BULK AT MOST 1048576: true; the input reads as it did. -/
def stateLimitsUptoRow : OpenClaim := { program := "ytacimelcmkhhlaa", sum := "5396e76d41f8ac49a9e3dd37fa339d7f4727eac43464ebe26232bc521144b6af", func := "lethe/lethelaw18.StateLimits", spec := "stateLimits", apart := false, narrowed := true }
def StateLimitsUptoSaid : Prop := stateLimitsUptoRow.holds Try.pinned (OpenSpec.upto stateLimitsSpec)

/-- 'lethelaw18.StateBack', WHERE WHAT IT READS IS OF BULK AT MOST 1048576: true; the input reads as it did. -/
def stateBackUptoRow : OpenClaim := { program := "ytacimelcmkhhlaa", sum := "5396e76d41f8ac49a9e3dd37fa339d7f4727eac43464ebe26232bc521144b6af", func := "lethe/lethelaw18.StateBack", spec := "stateBack", apart := false, narrowed := true }
def StateBackUptoSaid : Prop := stateBackUptoRow.holds Try.pinned (OpenSpec.upto stateBackSpec)

/-- 'lethelaw18.StateCut', WHERE WHAT IT READS IS OF BULK AT MOST 1048576: true; the input reads as it did. -/
def stateCutUptoRow : OpenClaim := { program := "ytacimelcmkhhlaa", sum := "5396e76d41f8ac49a9e3dd37fa339d7f4727eac43464ebe26232bc521144b6af", func := "lethe/lethelaw18.StateCut", spec := "stateCut", apart := false, narrowed := true }
def StateCutUptoSaid : Prop := stateCutUptoRow.holds Try.pinned (OpenSpec.upto stateCutSpec)

/-- 'lethelaw18.StateOneForm', WHERE WHAT IT READS IS OF BULK AT MOST 1048576: true; the input reads as it did. -/
def stateOneFormUptoRow : OpenClaim := { program := "ytacimelcmkhhlaa", sum := "5396e76d41f8ac49a9e3dd37fa339d7f4727eac43464ebe26232bc521144b6af", func := "lethe/lethelaw18.StateOneForm", spec := "stateOneForm", apart := false, narrowed := true }
def StateOneFormUptoSaid : Prop := stateOneFormUptoRow.holds Try.pinned (OpenSpec.upto stateOneFormSpec)

/-- 'lethelaw18.StateExact', WHERE WHAT IT READS IS OF BULK AT MOST 1048576: true; the input reads as it did. -/
def stateExactUptoRow : OpenClaim := { program := "ytacimelcmkhhlaa", sum := "5396e76d41f8ac49a9e3dd37fa339d7f4727eac43464ebe26232bc521144b6af", func := "lethe/lethelaw18.StateExact", spec := "stateExact", apart := false, narrowed := true }
def StateExactUptoSaid : Prop := stateExactUptoRow.holds Try.pinned (OpenSpec.upto stateExactSpec)

end Rows
end Go.Proofs.Ytacimelcmkhhlaa
