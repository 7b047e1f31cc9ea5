/-
  DERIVED. GIVEN WITH THE SEED: THE CARDS: each row of YtiefgmgjlhjjhaaDoorRows.lean that lists a variable, with what it lists TIED to the program's text (the seventh form; the later family's looks); each row that meets fmt, with fmt's text TOLD by the authors' own Lean function (tested against real Go, not proved from fmt's source: count such statements apart). THE CARD IS WHAT COUNTS. Prove the row's statement (the work); the ties are given (YtiefgmgjlhjjhaaDoorTie.lean); close each card by the builder's one call (the guide's Derived/Test/ToyasCard.lean, 'card_holds'). Laid BY PROGRAM, IN A SANDBOX (cutbox-door.mjs). By AI agents, Wed Nov 11 2026. No macro, syntax, notation, axiom, sorry.
-/
import Derived.Test.YtiefgmgjlhjjhaaDoorRows
import GoSem.ClaimSeven
namespace Go.Proofs.YtiefgmgjlhjjhaaDoor
namespace Rows

/-- THE TIED CARD OF 'lethelaw26.ParcelWhole'. -/
def parcelWholeCard : Claim7 := { stood := { row := parcelWholeRow, standIns := [], harness := (true, "fd0a6f85e2fea2d2771d9c732c559f0aaae0eb0361b8190b6a45c43e79bf55b3"), looks := false }, kinds := [], alts := [], laidByText := true, laidKinds := [.data], laidTests := true, laidLooks := .later }
def ParcelWholeCardSaid : Prop := Claim7.holds Tryd.pinned (.plain (OpenSpec.ofChange parcelWholeSpec)) parcelWholeCard

/-- THE TIED CARD OF 'lethelaw26.ParcelApart'. -/
def parcelApartCard : Claim7 := { stood := { row := parcelApartRow, standIns := [], harness := (true, "fd0a6f85e2fea2d2771d9c732c559f0aaae0eb0361b8190b6a45c43e79bf55b3"), looks := false }, kinds := [], alts := [], laidByText := true, laidKinds := [.data], laidTests := true, laidLooks := .later }
def ParcelApartCardSaid : Prop := Claim7.holds Tryd.pinned (.plain (OpenSpec.ofChange parcelApartSpec)) parcelApartCard

/-- THE TIED CARD OF 'lethelaw26.ParcelHands'. -/
def parcelHandsCard : Claim7 := { stood := { row := parcelHandsRow, standIns := [], harness := (true, "fd0a6f85e2fea2d2771d9c732c559f0aaae0eb0361b8190b6a45c43e79bf55b3"), looks := false }, kinds := [], alts := [], laidByText := true, laidKinds := [.data], laidTests := true, laidLooks := .later }
def ParcelHandsCardSaid : Prop := Claim7.holds Tryd.pinned (.plain (OpenSpec.ofChange parcelHandsSpec)) parcelHandsCard

/-- THE TIED CARD OF 'lethelaw26.ParcelExact'. -/
def parcelExactCard : Claim7 := { stood := { row := parcelExactRow, standIns := [], harness := (true, "fd0a6f85e2fea2d2771d9c732c559f0aaae0eb0361b8190b6a45c43e79bf55b3"), looks := false }, kinds := [], alts := [], laidByText := true, laidKinds := [.data, .data, .data], laidTests := true, laidLooks := .later }
def ParcelExactCardSaid : Prop := Claim7.holds Tryd.pinned (.plain (OpenSpec.ofChange parcelExactSpec)) parcelExactCard

/-- THE SECOND FORM's CARD OF 'lethelaw26.ParcelWhole'. -/
def parcelWholeUptoCard : Claim7 := { stood := { row := parcelWholeUptoRow, standIns := [], harness := (true, "fd0a6f85e2fea2d2771d9c732c559f0aaae0eb0361b8190b6a45c43e79bf55b3"), looks := false }, kinds := [], alts := [], laidByText := true, laidKinds := [.data], laidTests := true, laidLooks := .later }
def ParcelWholeUptoCardSaid : Prop := Claim7.holds Tryd.pinned (.plain (OpenSpec.upto parcelWholeSpec)) parcelWholeUptoCard

/-- THE SECOND FORM's CARD OF 'lethelaw26.ParcelApart'. -/
def parcelApartUptoCard : Claim7 := { stood := { row := parcelApartUptoRow, standIns := [], harness := (true, "fd0a6f85e2fea2d2771d9c732c559f0aaae0eb0361b8190b6a45c43e79bf55b3"), looks := false }, kinds := [], alts := [], laidByText := true, laidKinds := [.data], laidTests := true, laidLooks := .later }
def ParcelApartUptoCardSaid : Prop := Claim7.holds Tryd.pinned (.plain (OpenSpec.upto parcelApartSpec)) parcelApartUptoCard

/-- THE SECOND FORM's CARD OF 'lethelaw26.ParcelHands'. -/
def parcelHandsUptoCard : Claim7 := { stood := { row := parcelHandsUptoRow, standIns := [], harness := (true, "fd0a6f85e2fea2d2771d9c732c559f0aaae0eb0361b8190b6a45c43e79bf55b3"), looks := false }, kinds := [], alts := [], laidByText := true, laidKinds := [.data], laidTests := true, laidLooks := .later }
def ParcelHandsUptoCardSaid : Prop := Claim7.holds Tryd.pinned (.plain (OpenSpec.upto parcelHandsSpec)) parcelHandsUptoCard

/-- THE SECOND FORM's CARD OF 'lethelaw26.ParcelExact'. -/
def parcelExactUptoCard : Claim7 := { stood := { row := parcelExactUptoRow, standIns := [], harness := (true, "fd0a6f85e2fea2d2771d9c732c559f0aaae0eb0361b8190b6a45c43e79bf55b3"), looks := false }, kinds := [], alts := [], laidByText := true, laidKinds := [.data, .data, .data], laidTests := true, laidLooks := .later }
def ParcelExactUptoCardSaid : Prop := Claim7.holds Tryd.pinned (.plain (OpenSpec.upto parcelExactSpec)) parcelExactUptoCard
end Rows
end Go.Proofs.YtiefgmgjlhjjhaaDoor
