/-
  DERIVED. GIVEN WITH THE SEED: THE CARDS: each row of YtomioemhjhhbcaaGreatDoorRows.lean that lists a variable, with what it lists TIED to the program's text (the seventh form; the later family's looks); each row that meets fmt, with fmt's text TOLD by the authors' own Lean function (tested against real Go, not proved from fmt's source: count such statements apart). THE CARD IS WHAT COUNTS. Prove the row's statement (the work); the ties are given (YtomioemhjhhbcaaGreatDoorTie.lean); close each card by the builder's one call (the guide's Derived/Test/ToyasCard.lean, 'card_holds'). Laid BY PROGRAM, IN A SANDBOX (cutbox-door.mjs). By AI agents, Wed Nov 11 2026. No macro, syntax, notation, axiom, sorry.
-/
import Derived.Test.YtomioemhjhhbcaaGreatDoorRows
import GoSem.ClaimSeven
namespace Go.Proofs.YtomioemhjhhbcaaGreatDoor
namespace Rows

/-- THE TIED CARD OF 'lethelaw09.WalIdle'. -/
def walIdleCard : Claim7 := { stood := { row := walIdleRow, standIns := [], harness := (true, "a4d65d9c30907661de1eb8598661d66798d262b28bb22535ec89d60b5ab00567"), looks := true }, kinds := [], alts := [], laidByText := true, laidKinds := [.handle], laidTests := true, laidLooks := .later }
def WalIdleCardSaid : Prop := Claim7.holds Tryz.pinned (.plain (OpenSpec.ofChange walIdleSpec)) walIdleCard

/-- THE SECOND FORM's CARD OF 'lethelaw09.WalIdle'. -/
def walIdleUptoCard : Claim7 := { stood := { row := walIdleUptoRow, standIns := [], harness := (true, "a4d65d9c30907661de1eb8598661d66798d262b28bb22535ec89d60b5ab00567"), looks := true }, kinds := [], alts := [], laidByText := true, laidKinds := [.handle], laidTests := true, laidLooks := .later }
def WalIdleUptoCardSaid : Prop := Claim7.holds Tryz.pinned (.plain (OpenSpec.upto walIdleSpec)) walIdleUptoCard
end Rows
end Go.Proofs.YtomioemhjhhbcaaGreatDoor
