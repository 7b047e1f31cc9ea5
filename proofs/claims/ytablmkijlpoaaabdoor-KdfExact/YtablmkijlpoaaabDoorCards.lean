/-
  DERIVED. GIVEN WITH THE SEED: THE CARDS: each row of YtablmkijlpoaaabDoorRows.lean that lists a variable, with what it lists TIED to the program's text (the seventh form; the later family's looks); each row that meets fmt, with fmt's text TOLD by the authors' own Lean function (tested against real Go, not proved from fmt's source: count such statements apart). THE CARD IS WHAT COUNTS. Prove the row's statement (the work); the ties are given (YtablmkijlpoaaabDoorTie.lean); close each card by the builder's one call (the guide's Derived/Test/ToyasCard.lean, 'card_holds'). Laid BY PROGRAM, IN A SANDBOX (cutbox-door.mjs). By AI agents, Wed Nov 11 2026. No macro, syntax, notation, axiom, sorry.
-/
import Derived.Test.YtablmkijlpoaaabDoorRows
import GoSem.ClaimSeven
namespace Go.Proofs.YtablmkijlpoaaabDoor
namespace Rows

/-- THE TIED CARD OF 'lethelaw03.KdfExact'. -/
def kdfExactCard : Claim7 := { stood := { row := kdfExactRow, standIns := [], harness := (true, "bdcef145f85a11c547174c2c10abfeb13e8ae1e18d8aee0cd68c955775ceb2ca"), looks := false }, kinds := [], alts := [], laidByText := true, laidKinds := [.data, .data, .data], laidTests := true, laidLooks := .later }
def KdfExactCardSaid : Prop := Claim7.holds Tryd.pinned (.plain (OpenSpec.ofChange kdfExactSpec)) kdfExactCard

/-- THE SECOND FORM's CARD OF 'lethelaw03.KdfExact'. -/
def kdfExactUptoCard : Claim7 := { stood := { row := kdfExactUptoRow, standIns := [], harness := (true, "bdcef145f85a11c547174c2c10abfeb13e8ae1e18d8aee0cd68c955775ceb2ca"), looks := false }, kinds := [], alts := [], laidByText := true, laidKinds := [.data, .data, .data], laidTests := true, laidLooks := .later }
def KdfExactUptoCardSaid : Prop := Claim7.holds Tryd.pinned (.plain (OpenSpec.upto kdfExactSpec)) kdfExactUptoCard
end Rows
end Go.Proofs.YtablmkijlpoaaabDoor
