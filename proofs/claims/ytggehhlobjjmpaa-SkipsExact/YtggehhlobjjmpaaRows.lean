/-
  No cell of these rows narrows 'for every input' (looked for: loops, veiled, ifaces, maps, wideKeys, modest, calm, conditions, laid).
  DERIVED. THE GIVEN ROWS OF THIS SEAT. 3 by the template 'for every input the law returns true; each argument reads behind the call as it read before'; 0 by the template 'total and deterministic' (their statements: YtggehhlobjjmpaaTotals.lean).
  GIVEN WITH THE SEED: the statements are not yours to turn. If you find one false, say at which input.
  Laid BY PROGRAM, IN A SANDBOX (cutbox-rows.mjs): the forced cells as the released guide's own fill.sh prints them over the translation df64f386fcc0a683… (all of the seat's roots in one cut). By AI agents, Wed Nov 11 2026. No macro, syntax, notation, axiom, sorry.
-/
import Derived.Test.YtggehhlobjjmpaaChecked
import GoSem.Claim
import GoSem.ClaimJoined
import GoSem.ClaimMapViews
import Derived.JoinedTies
import Derived.KernelRfl
namespace Go.Proofs.Ytggehhlobjjmpaa
/- THE CELL 'sum', in the pinned program and in every row, IS THE sha256 OF THE DUMP (.gsa) THAT YtggehhlobjjmpaaProg.lean LOADS. Nothing in Lean hashes anything: it is a label: what it is worth is what the hold of that sum in a sandbox is worth. -/
noncomputable def Try.pinned : Pinned := { name := "ytggehhlobjjmpaa", sum := "df64f386fcc0a683e040b8acab6200d561eddd7507b5cb89828d94ae1c095d6d", checked := Try.checked }
namespace Rows
def none {H : Type} : Left H := { results := [], args := [] }

/-- 'lethelaw15.SkipsOnce': WHATEVER THE INPUT: true; the input reads as it did. -/
def skipsOnceSpec : ChangeSpec := { name := "skipsOnce", fn := fun _ => fun
  | [d1, d2] => { results := [.lit (.bool true)], args := [d1, d2] }
  | _ => none }
def skipsOnceRow : OpenClaim := { program := "ytggehhlobjjmpaa", sum := "df64f386fcc0a683e040b8acab6200d561eddd7507b5cb89828d94ae1c095d6d", func := "lethe/lethelaw15.SkipsOnce", spec := "skipsOnce", unfollowed := true, recurses := true, plainKeys := false, apart := false }
def SkipsOnceSaid : Prop := skipsOnceRow.holds Try.pinned (OpenSpec.ofChange skipsOnceSpec)

/-- ITS FALSE NEIGHBOUR: 'it returns false'. Refute it at one input. -/
def skipsOnceWrong : ChangeSpec := { name := "skipsOnce", fn := fun _ => fun
  | [d1, d2] => { results := [.lit (.bool false)], args := [d1, d2] }
  | _ => none }
def SkipsOnceWrongFalsely : Prop := skipsOnceRow.holds Try.pinned (OpenSpec.ofChange skipsOnceWrong)

/-- 'lethelaw15.SkipsHands': WHATEVER THE INPUT: true; the input reads as it did. -/
def skipsHandsSpec : ChangeSpec := { name := "skipsHands", fn := fun _ => fun
  | [d1, d2] => { results := [.lit (.bool true)], args := [d1, d2] }
  | _ => none }
def skipsHandsRow : OpenClaim := { program := "ytggehhlobjjmpaa", sum := "df64f386fcc0a683e040b8acab6200d561eddd7507b5cb89828d94ae1c095d6d", func := "lethe/lethelaw15.SkipsHands", spec := "skipsHands", inPlace := ["maps.clone"], unfollowed := true, recurses := true, plainKeys := false, apart := false }
def SkipsHandsSaid : Prop := skipsHandsRow.holds Try.pinned (OpenSpec.ofChange skipsHandsSpec)

/-- ITS FALSE NEIGHBOUR: 'it returns false'. Refute it at one input. -/
def skipsHandsWrong : ChangeSpec := { name := "skipsHands", fn := fun _ => fun
  | [d1, d2] => { results := [.lit (.bool false)], args := [d1, d2] }
  | _ => none }
def SkipsHandsWrongFalsely : Prop := skipsHandsRow.holds Try.pinned (OpenSpec.ofChange skipsHandsWrong)

/-- 'lethelaw15.SkipsExact': WHATEVER THE INPUT: true; the input reads as it did. -/
def skipsExactSpec : ChangeSpec := { name := "skipsExact", fn := fun _ => fun
  | [d1, d2, d3] => { results := [.lit (.bool true)], args := [d1, d2, d3] }
  | _ => none }
def skipsExactRow : OpenClaim := { program := "ytggehhlobjjmpaa", sum := "df64f386fcc0a683e040b8acab6200d561eddd7507b5cb89828d94ae1c095d6d", func := "lethe/lethelaw15.SkipsExact", spec := "skipsExact", inPlace := ["maps.clone"], unfollowed := true, recurses := true, plainKeys := false, apart := false }
def SkipsExactSaid : Prop := skipsExactRow.holds Try.pinned (OpenSpec.ofChange skipsExactSpec)

/-- ITS FALSE NEIGHBOUR: 'it returns false'. Refute it at one input. -/
def skipsExactWrong : ChangeSpec := { name := "skipsExact", fn := fun _ => fun
  | [d1, d2, d3] => { results := [.lit (.bool false)], args := [d1, d2, d3] }
  | _ => none }
def SkipsExactWrongFalsely : Prop := skipsExactRow.holds Try.pinned (OpenSpec.ofChange skipsExactWrong)

/- THE SECOND FORM. 'bulk': how many values and letters a reading holds, each counted each time it is reached (what is shared counts as often as it is met; a slice's spare places count too). A statement '..UptoSaid' is the law's where the arguments, and the package variables that the reading takes, are together of bulk at most 1048576: NARROWER than '..Said'. Prove '..Said' where nothing that the law and all that it calls make is longer than what came in: it says more and counts as full. Else prove '..UptoSaid'. A law counts once. -/
mutual
def uptoBulk {H : Type} : DataW H → Nat
  | .lit (.string bytes) => bytes.length + 1
  | .lit _ => 1
  | .nil => 1
  | .ptr d => uptoBulk d + 1
  | .slice elems spare => uptoBulkAll elems + uptoBulkAll spare + 1
  | .agg parts => uptoBulkAll parts + 1
  | .iface _ d => uptoBulk d + 1
  | .map entries => uptoBulkEntries entries + 1
  | .held _ => 1
def uptoBulkAll {H : Type} : List (DataW H) → Nat
  | [] => 0
  | d :: r => uptoBulk d + uptoBulkAll r
def uptoBulkEntries {H : Type} : List (Lit × DataW H) → Nat
  | [] => 0
  | x :: r => uptoBulkEntry x + uptoBulkEntries r
def uptoBulkEntry {H : Type} : Lit × DataW H → Nat
  | (.string bytes, d) => bytes.length + uptoBulk d + 1
  | (_, d) => uptoBulk d + 1
 end
def uptoSmall : (H : Type) → List (DataW H) → Bool := fun _ ds => decide (uptoBulkAll ds ≤ 1048576)
def OpenSpec.upto (s : _root_.Go.ChangeSpec) : _root_.Go.OpenSpec := { _root_.Go.OpenSpec.ofChange s with cond := some uptoSmall }

/-- 'lethelaw15.SkipsOnce', WHERE WHAT IT READS IS OF BULK AT MOST 1048576: true; the input reads as it did. -/
def skipsOnceUptoRow : OpenClaim := { program := "ytggehhlobjjmpaa", sum := "df64f386fcc0a683e040b8acab6200d561eddd7507b5cb89828d94ae1c095d6d", func := "lethe/lethelaw15.SkipsOnce", spec := "skipsOnce", unfollowed := true, recurses := true, plainKeys := false, apart := false, narrowed := true }
def SkipsOnceUptoSaid : Prop := skipsOnceUptoRow.holds Try.pinned (OpenSpec.upto skipsOnceSpec)

/-- 'lethelaw15.SkipsHands', WHERE WHAT IT READS IS OF BULK AT MOST 1048576: true; the input reads as it did. -/
def skipsHandsUptoRow : OpenClaim := { program := "ytggehhlobjjmpaa", sum := "df64f386fcc0a683e040b8acab6200d561eddd7507b5cb89828d94ae1c095d6d", func := "lethe/lethelaw15.SkipsHands", spec := "skipsHands", inPlace := ["maps.clone"], unfollowed := true, recurses := true, plainKeys := false, apart := false, narrowed := true }
def SkipsHandsUptoSaid : Prop := skipsHandsUptoRow.holds Try.pinned (OpenSpec.upto skipsHandsSpec)

/-- 'lethelaw15.SkipsExact', WHERE WHAT IT READS IS OF BULK AT MOST 1048576: true; the input reads as it did. -/
def skipsExactUptoRow : OpenClaim := { program := "ytggehhlobjjmpaa", sum := "df64f386fcc0a683e040b8acab6200d561eddd7507b5cb89828d94ae1c095d6d", func := "lethe/lethelaw15.SkipsExact", spec := "skipsExact", inPlace := ["maps.clone"], unfollowed := true, recurses := true, plainKeys := false, apart := false, narrowed := true }
def SkipsExactUptoSaid : Prop := skipsExactUptoRow.holds Try.pinned (OpenSpec.upto skipsExactSpec)

end Rows
end Go.Proofs.Ytggehhlobjjmpaa
