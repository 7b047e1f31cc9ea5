/-
  DERIVED. GIVEN WITH THE SEED: THE CARDS: each row of YtbghjabojgedaaaDoorRows.lean that lists a variable, with what it lists TIED to the program's text (the seventh form; the later family's looks); each row that meets fmt, with fmt's text TOLD by the authors' own Lean function (tested against real Go, not proved from fmt's source: count such statements apart). THE CARD IS WHAT COUNTS. Prove the row's statement (the work); the ties are given (YtbghjabojgedaaaDoorTie.lean); close each card by the builder's one call (the guide's Derived/Test/ToyasCard.lean, 'card_holds'). Laid BY PROGRAM, IN A SANDBOX (cutbox-door.mjs). By AI agents, Wed Nov 11 2026. No macro, syntax, notation, axiom, sorry.
-/
import Derived.Test.YtbghjabojgedaaaDoorRows
import GoSem.ClaimSeven
namespace Go.Proofs.YtbghjabojgedaaaDoor
namespace Rows

/-- THE TIED CARD OF 'lethelaw13.ChainHands'. -/
def chainHandsCard : Claim7 := { stood := { row := chainHandsRow, standIns := [], harness := (true, "3a5b6af1c2cd4b6197547efd5e3c36644ae4f16ca752c3ca0f0b60278fff5062"), looks := false }, kinds := [], alts := [], laidByText := true, laidKinds := [.data], laidTests := true, laidLooks := .later }
def ChainHandsCardSaid : Prop := Claim7.holds Tryd.pinned (.plain (OpenSpec.ofChange chainHandsSpec)) chainHandsCard

/-- THE TIED CARD OF 'lethelaw13.ChainSteps'. -/
def chainStepsCard : Claim7 := { stood := { row := chainStepsRow, standIns := [], harness := (true, "3a5b6af1c2cd4b6197547efd5e3c36644ae4f16ca752c3ca0f0b60278fff5062"), looks := false }, kinds := [], alts := [], laidByText := true, laidKinds := [.data], laidTests := true, laidLooks := .later }
def ChainStepsCardSaid : Prop := Claim7.holds Tryd.pinned (.plain (OpenSpec.ofChange chainStepsSpec)) chainStepsCard

/-- THE TIED CARD OF 'lethelaw13.ChainExact'. -/
def chainExactCard : Claim7 := { stood := { row := chainExactRow, standIns := [], harness := (true, "3a5b6af1c2cd4b6197547efd5e3c36644ae4f16ca752c3ca0f0b60278fff5062"), looks := false }, kinds := [], alts := [], laidByText := true, laidKinds := [.data, .data, .data], laidTests := true, laidLooks := .later }
def ChainExactCardSaid : Prop := Claim7.holds Tryd.pinned (.plain (OpenSpec.ofChange chainExactSpec)) chainExactCard

/-- THE SECOND FORM's CARD OF 'lethelaw13.ChainHands'. -/
def chainHandsUptoCard : Claim7 := { stood := { row := chainHandsUptoRow, standIns := [], harness := (true, "3a5b6af1c2cd4b6197547efd5e3c36644ae4f16ca752c3ca0f0b60278fff5062"), looks := false }, kinds := [], alts := [], laidByText := true, laidKinds := [.data], laidTests := true, laidLooks := .later }
def ChainHandsUptoCardSaid : Prop := Claim7.holds Tryd.pinned (.plain (OpenSpec.upto chainHandsSpec)) chainHandsUptoCard

/-- THE SECOND FORM's CARD OF 'lethelaw13.ChainSteps'. -/
def chainStepsUptoCard : Claim7 := { stood := { row := chainStepsUptoRow, standIns := [], harness := (true, "3a5b6af1c2cd4b6197547efd5e3c36644ae4f16ca752c3ca0f0b60278fff5062"), looks := false }, kinds := [], alts := [], laidByText := true, laidKinds := [.data], laidTests := true, laidLooks := .later }
def ChainStepsUptoCardSaid : Prop := Claim7.holds Tryd.pinned (.plain (OpenSpec.upto chainStepsSpec)) chainStepsUptoCard

/-- THE SECOND FORM's CARD OF 'lethelaw13.ChainExact'. -/
def chainExactUptoCard : Claim7 := { stood := { row := chainExactUptoRow, standIns := [], harness := (true, "3a5b6af1c2cd4b6197547efd5e3c36644ae4f16ca752c3ca0f0b60278fff5062"), looks := false }, kinds := [], alts := [], laidByText := true, laidKinds := [.data, .data, .data], laidTests := true, laidLooks := .later }
def ChainExactUptoCardSaid : Prop := Claim7.holds Tryd.pinned (.plain (OpenSpec.upto chainExactSpec)) chainExactUptoCard
end Rows
end Go.Proofs.YtbghjabojgedaaaDoor
