/-
  DERIVED. GIVEN WITH THE SEED: THE CARDS: each row of YtoceepmehmacbaaDoorRows.lean that lists a variable, with what it lists TIED to the program's text (the seventh form; the later family's looks); each row that meets fmt, with fmt's text TOLD by the authors' own Lean function (tested against real Go, not proved from fmt's source: count such statements apart). THE CARD IS WHAT COUNTS. Prove the row's statement (the work); the ties are given (YtoceepmehmacbaaDoorTie.lean); close each card by the builder's one call (the guide's Derived/Test/ToyasCard.lean, 'card_holds'). Laid BY PROGRAM, IN A SANDBOX (cutbox-door.mjs). By AI agents, Wed Nov 11 2026. No macro, syntax, notation, axiom, sorry.
-/
import Derived.Test.YtoceepmehmacbaaDoorRows
import GoSem.ClaimSeven
namespace Go.Proofs.YtoceepmehmacbaaDoor
namespace Rows

/-- THE TIED CARD OF 'lethelaw17.AgreeIsMade'. -/
def agreeIsMadeCard : Claim7 := { stood := { row := agreeIsMadeRow, standIns := [], harness := (true, "1bbaaceeffa465fb4ddf5f9cfb2456737a8975d9aeda627f7cd58156510bd631"), looks := false }, kinds := [], alts := [], laidByText := true, laidKinds := [.data], laidTests := true, laidLooks := .later }
def AgreeIsMadeCardSaid : Prop := Claim7.holds Tryd.pinned (.plain (OpenSpec.ofChange agreeIsMadeSpec)) agreeIsMadeCard

/-- THE TIED CARD OF 'lethelaw17.AgreePoints'. -/
def agreePointsCard : Claim7 := { stood := { row := agreePointsRow, standIns := [], harness := (true, "1bbaaceeffa465fb4ddf5f9cfb2456737a8975d9aeda627f7cd58156510bd631"), looks := false }, kinds := [], alts := [], laidByText := true, laidKinds := [.data], laidTests := true, laidLooks := .later }
def AgreePointsCardSaid : Prop := Claim7.holds Tryd.pinned (.plain (OpenSpec.ofChange agreePointsSpec)) agreePointsCard

/-- THE TIED CARD OF 'lethelaw17.AgreeMeets'. -/
def agreeMeetsCard : Claim7 := { stood := { row := agreeMeetsRow, standIns := [], harness := (true, "1bbaaceeffa465fb4ddf5f9cfb2456737a8975d9aeda627f7cd58156510bd631"), looks := false }, kinds := [], alts := [], laidByText := true, laidKinds := [.data], laidTests := true, laidLooks := .later }
def AgreeMeetsCardSaid : Prop := Claim7.holds Tryd.pinned (.plain (OpenSpec.ofChange agreeMeetsSpec)) agreeMeetsCard

/-- THE TIED CARD OF 'lethelaw17.AgreeExact'. -/
def agreeExactCard : Claim7 := { stood := { row := agreeExactRow, standIns := [], harness := (true, "1bbaaceeffa465fb4ddf5f9cfb2456737a8975d9aeda627f7cd58156510bd631"), looks := false }, kinds := [], alts := [], laidByText := true, laidKinds := [.data, .data, .data], laidTests := true, laidLooks := .later }
def AgreeExactCardSaid : Prop := Claim7.holds Tryd.pinned (.plain (OpenSpec.ofChange agreeExactSpec)) agreeExactCard

/-- THE SECOND FORM's CARD OF 'lethelaw17.AgreeIsMade'. -/
def agreeIsMadeUptoCard : Claim7 := { stood := { row := agreeIsMadeUptoRow, standIns := [], harness := (true, "1bbaaceeffa465fb4ddf5f9cfb2456737a8975d9aeda627f7cd58156510bd631"), looks := false }, kinds := [], alts := [], laidByText := true, laidKinds := [.data], laidTests := true, laidLooks := .later }
def AgreeIsMadeUptoCardSaid : Prop := Claim7.holds Tryd.pinned (.plain (OpenSpec.upto agreeIsMadeSpec)) agreeIsMadeUptoCard

/-- THE SECOND FORM's CARD OF 'lethelaw17.AgreePoints'. -/
def agreePointsUptoCard : Claim7 := { stood := { row := agreePointsUptoRow, standIns := [], harness := (true, "1bbaaceeffa465fb4ddf5f9cfb2456737a8975d9aeda627f7cd58156510bd631"), looks := false }, kinds := [], alts := [], laidByText := true, laidKinds := [.data], laidTests := true, laidLooks := .later }
def AgreePointsUptoCardSaid : Prop := Claim7.holds Tryd.pinned (.plain (OpenSpec.upto agreePointsSpec)) agreePointsUptoCard

/-- THE SECOND FORM's CARD OF 'lethelaw17.AgreeMeets'. -/
def agreeMeetsUptoCard : Claim7 := { stood := { row := agreeMeetsUptoRow, standIns := [], harness := (true, "1bbaaceeffa465fb4ddf5f9cfb2456737a8975d9aeda627f7cd58156510bd631"), looks := false }, kinds := [], alts := [], laidByText := true, laidKinds := [.data], laidTests := true, laidLooks := .later }
def AgreeMeetsUptoCardSaid : Prop := Claim7.holds Tryd.pinned (.plain (OpenSpec.upto agreeMeetsSpec)) agreeMeetsUptoCard

/-- THE SECOND FORM's CARD OF 'lethelaw17.AgreeExact'. -/
def agreeExactUptoCard : Claim7 := { stood := { row := agreeExactUptoRow, standIns := [], harness := (true, "1bbaaceeffa465fb4ddf5f9cfb2456737a8975d9aeda627f7cd58156510bd631"), looks := false }, kinds := [], alts := [], laidByText := true, laidKinds := [.data, .data, .data], laidTests := true, laidLooks := .later }
def AgreeExactUptoCardSaid : Prop := Claim7.holds Tryd.pinned (.plain (OpenSpec.upto agreeExactSpec)) agreeExactUptoCard
end Rows
end Go.Proofs.YtoceepmehmacbaaDoor
