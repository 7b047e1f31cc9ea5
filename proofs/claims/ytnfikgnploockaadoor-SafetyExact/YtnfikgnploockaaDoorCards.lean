/-
  DERIVED. GIVEN WITH THE SEED: THE CARDS: each row of YtnfikgnploockaaDoorRows.lean that lists a variable, with what it lists TIED to the program's text (the seventh form; the later family's looks); each row that meets fmt, with fmt's text TOLD by the authors' own Lean function (tested against real Go, not proved from fmt's source: count such statements apart). THE CARD IS WHAT COUNTS. Prove the row's statement (the work); the ties are given (YtnfikgnploockaaDoorTie.lean); close each card by the builder's one call (the guide's Derived/Test/ToyasCard.lean, 'card_holds'). Laid BY PROGRAM, IN A SANDBOX (cutbox-door.mjs). By AI agents, Wed Nov 11 2026. No macro, syntax, notation, axiom, sorry.
-/
import Derived.Test.YtnfikgnploockaaDoorRows
import GoSem.ClaimSeven
namespace Go.Proofs.YtnfikgnploockaaDoor
namespace Rows

/-- THE TIED CARD OF 'lethelaw25.SafetyIsHash'. -/
def safetyIsHashCard : Claim7 := { stood := { row := safetyIsHashRow, standIns := [], harness := (true, "4b4c2d53022f77cf2ccac49e34ab8114f66847a609c18ebdaa73cd5a5b0e50a5"), looks := false }, kinds := [], alts := [], laidByText := true, laidKinds := [.data, .data, .data, .data], laidTests := true, laidLooks := .later }
def SafetyIsHashCardSaid : Prop := Claim7.holds Tryd.pinned (.plain (OpenSpec.ofChange safetyIsHashSpec)) safetyIsHashCard

/-- THE TIED CARD OF 'lethelaw25.SafetyNames'. -/
def safetyNamesCard : Claim7 := { stood := { row := safetyNamesRow, standIns := [], harness := (true, "4b4c2d53022f77cf2ccac49e34ab8114f66847a609c18ebdaa73cd5a5b0e50a5"), looks := false }, kinds := [], alts := [], laidByText := true, laidKinds := [.data, .data, .data, .data], laidTests := true, laidLooks := .later }
def SafetyNamesCardSaid : Prop := Claim7.holds Tryd.pinned (.plain (OpenSpec.ofChange safetyNamesSpec)) safetyNamesCard

/-- THE TIED CARD OF 'lethelaw25.SafetySame'. -/
def safetySameCard : Claim7 := { stood := { row := safetySameRow, standIns := [], harness := (true, "4b4c2d53022f77cf2ccac49e34ab8114f66847a609c18ebdaa73cd5a5b0e50a5"), looks := false }, kinds := [], alts := [], laidByText := true, laidKinds := [.data, .data, .data, .data], laidTests := true, laidLooks := .later }
def SafetySameCardSaid : Prop := Claim7.holds Tryd.pinned (.plain (OpenSpec.ofChange safetySameSpec)) safetySameCard

/-- THE TIED CARD OF 'lethelaw25.SafetyTells'. -/
def safetyTellsCard : Claim7 := { stood := { row := safetyTellsRow, standIns := [], harness := (true, "4b4c2d53022f77cf2ccac49e34ab8114f66847a609c18ebdaa73cd5a5b0e50a5"), looks := false }, kinds := [], alts := [], laidByText := true, laidKinds := [.data, .data, .data, .data], laidTests := true, laidLooks := .later }
def SafetyTellsCardSaid : Prop := Claim7.holds Tryd.pinned (.plain (OpenSpec.ofChange safetyTellsSpec)) safetyTellsCard

/-- THE TIED CARD OF 'lethelaw25.SafetyExact'. -/
def safetyExactCard : Claim7 := { stood := { row := safetyExactRow, standIns := [], harness := (true, "4b4c2d53022f77cf2ccac49e34ab8114f66847a609c18ebdaa73cd5a5b0e50a5"), looks := false }, kinds := [], alts := [], laidByText := true, laidKinds := [.data, .data, .data, .data, .data, .data], laidTests := true, laidLooks := .later }
def SafetyExactCardSaid : Prop := Claim7.holds Tryd.pinned (.plain (OpenSpec.ofChange safetyExactSpec)) safetyExactCard

/-- THE SECOND FORM's CARD OF 'lethelaw25.SafetyIsHash'. -/
def safetyIsHashUptoCard : Claim7 := { stood := { row := safetyIsHashUptoRow, standIns := [], harness := (true, "4b4c2d53022f77cf2ccac49e34ab8114f66847a609c18ebdaa73cd5a5b0e50a5"), looks := false }, kinds := [], alts := [], laidByText := true, laidKinds := [.data, .data, .data, .data], laidTests := true, laidLooks := .later }
def SafetyIsHashUptoCardSaid : Prop := Claim7.holds Tryd.pinned (.plain (OpenSpec.upto safetyIsHashSpec)) safetyIsHashUptoCard

/-- THE SECOND FORM's CARD OF 'lethelaw25.SafetyNames'. -/
def safetyNamesUptoCard : Claim7 := { stood := { row := safetyNamesUptoRow, standIns := [], harness := (true, "4b4c2d53022f77cf2ccac49e34ab8114f66847a609c18ebdaa73cd5a5b0e50a5"), looks := false }, kinds := [], alts := [], laidByText := true, laidKinds := [.data, .data, .data, .data], laidTests := true, laidLooks := .later }
def SafetyNamesUptoCardSaid : Prop := Claim7.holds Tryd.pinned (.plain (OpenSpec.upto safetyNamesSpec)) safetyNamesUptoCard

/-- THE SECOND FORM's CARD OF 'lethelaw25.SafetySame'. -/
def safetySameUptoCard : Claim7 := { stood := { row := safetySameUptoRow, standIns := [], harness := (true, "4b4c2d53022f77cf2ccac49e34ab8114f66847a609c18ebdaa73cd5a5b0e50a5"), looks := false }, kinds := [], alts := [], laidByText := true, laidKinds := [.data, .data, .data, .data], laidTests := true, laidLooks := .later }
def SafetySameUptoCardSaid : Prop := Claim7.holds Tryd.pinned (.plain (OpenSpec.upto safetySameSpec)) safetySameUptoCard

/-- THE SECOND FORM's CARD OF 'lethelaw25.SafetyTells'. -/
def safetyTellsUptoCard : Claim7 := { stood := { row := safetyTellsUptoRow, standIns := [], harness := (true, "4b4c2d53022f77cf2ccac49e34ab8114f66847a609c18ebdaa73cd5a5b0e50a5"), looks := false }, kinds := [], alts := [], laidByText := true, laidKinds := [.data, .data, .data, .data], laidTests := true, laidLooks := .later }
def SafetyTellsUptoCardSaid : Prop := Claim7.holds Tryd.pinned (.plain (OpenSpec.upto safetyTellsSpec)) safetyTellsUptoCard

/-- THE SECOND FORM's CARD OF 'lethelaw25.SafetyExact'. -/
def safetyExactUptoCard : Claim7 := { stood := { row := safetyExactUptoRow, standIns := [], harness := (true, "4b4c2d53022f77cf2ccac49e34ab8114f66847a609c18ebdaa73cd5a5b0e50a5"), looks := false }, kinds := [], alts := [], laidByText := true, laidKinds := [.data, .data, .data, .data, .data, .data], laidTests := true, laidLooks := .later }
def SafetyExactUptoCardSaid : Prop := Claim7.holds Tryd.pinned (.plain (OpenSpec.upto safetyExactSpec)) safetyExactUptoCard
end Rows
end Go.Proofs.YtnfikgnploockaaDoor
