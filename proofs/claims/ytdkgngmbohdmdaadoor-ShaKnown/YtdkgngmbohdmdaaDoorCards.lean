/-
  DERIVED. GIVEN WITH THE SEED: THE CARDS: each row of YtdkgngmbohdmdaaDoorRows.lean that lists a variable, with what it lists TIED to the program's text (the seventh form; the later family's looks); each row that meets fmt, with fmt's text TOLD by the authors' own Lean function (tested against real Go, not proved from fmt's source: count such statements apart). THE CARD IS WHAT COUNTS. Prove the row's statement (the work); the ties are given (YtdkgngmbohdmdaaDoorTie.lean); close each card by the builder's one call (the guide's Derived/Test/ToyasCard.lean, 'card_holds'). Laid BY PROGRAM, IN A SANDBOX (cutbox-door.mjs). By AI agents, Wed Nov 11 2026. No macro, syntax, notation, axiom, sorry.
-/
import Derived.Test.YtdkgngmbohdmdaaDoorRows
import GoSem.ClaimSeven
namespace Go.Proofs.YtdkgngmbohdmdaaDoor
namespace Rows

/-- THE TIED CARD OF 'lethelaw02.ShaKnown'. -/
def shaKnownCard : Claim7 := { stood := { row := shaKnownRow, standIns := [], harness := (true, "581455bc9bc6334607c8ab507b07e56e9757560f3fcd27c9e4e8075ede4259c9"), looks := false }, kinds := [], alts := [], laidByText := true, laidKinds := [.data], laidTests := true, laidLooks := .later }
def ShaKnownCardSaid : Prop := Claim7.holds Tryd.pinned (.plain (OpenSpec.ofChange shaKnownSpec)) shaKnownCard

/-- THE TIED CARD OF 'lethelaw02.ShaPieces'. -/
def shaPiecesCard : Claim7 := { stood := { row := shaPiecesRow, standIns := [], harness := (true, "581455bc9bc6334607c8ab507b07e56e9757560f3fcd27c9e4e8075ede4259c9"), looks := false }, kinds := [], alts := [], laidByText := true, laidKinds := [.data], laidTests := true, laidLooks := .later }
def ShaPiecesCardSaid : Prop := Claim7.holds Tryd.pinned (.plain (OpenSpec.ofChange shaPiecesSpec)) shaPiecesCard

/-- THE TIED CARD OF 'lethelaw02.ShaApart'. -/
def shaApartCard : Claim7 := { stood := { row := shaApartRow, standIns := [], harness := (true, "581455bc9bc6334607c8ab507b07e56e9757560f3fcd27c9e4e8075ede4259c9"), looks := false }, kinds := [], alts := [], laidByText := true, laidKinds := [.data], laidTests := true, laidLooks := .later }
def ShaApartCardSaid : Prop := Claim7.holds Tryd.pinned (.plain (OpenSpec.ofChange shaApartSpec)) shaApartCard

/-- THE TIED CARD OF 'lethelaw02.ShaIsBlocks'. -/
def shaIsBlocksCard : Claim7 := { stood := { row := shaIsBlocksRow, standIns := [], harness := (true, "581455bc9bc6334607c8ab507b07e56e9757560f3fcd27c9e4e8075ede4259c9"), looks := false }, kinds := [], alts := [], laidByText := true, laidKinds := [.data], laidTests := true, laidLooks := .later }
def ShaIsBlocksCardSaid : Prop := Claim7.holds Tryd.pinned (.plain (OpenSpec.ofChange shaIsBlocksSpec)) shaIsBlocksCard

/-- THE TIED CARD OF 'lethelaw02.ShaExact'. -/
def shaExactCard : Claim7 := { stood := { row := shaExactRow, standIns := [], harness := (true, "581455bc9bc6334607c8ab507b07e56e9757560f3fcd27c9e4e8075ede4259c9"), looks := false }, kinds := [], alts := [], laidByText := true, laidKinds := [.data, .data, .data], laidTests := true, laidLooks := .later }
def ShaExactCardSaid : Prop := Claim7.holds Tryd.pinned (.plain (OpenSpec.ofChange shaExactSpec)) shaExactCard

/-- THE SECOND FORM's CARD OF 'lethelaw02.ShaKnown'. -/
def shaKnownUptoCard : Claim7 := { stood := { row := shaKnownUptoRow, standIns := [], harness := (true, "581455bc9bc6334607c8ab507b07e56e9757560f3fcd27c9e4e8075ede4259c9"), looks := false }, kinds := [], alts := [], laidByText := true, laidKinds := [.data], laidTests := true, laidLooks := .later }
def ShaKnownUptoCardSaid : Prop := Claim7.holds Tryd.pinned (.plain (OpenSpec.upto shaKnownSpec)) shaKnownUptoCard

/-- THE SECOND FORM's CARD OF 'lethelaw02.ShaPieces'. -/
def shaPiecesUptoCard : Claim7 := { stood := { row := shaPiecesUptoRow, standIns := [], harness := (true, "581455bc9bc6334607c8ab507b07e56e9757560f3fcd27c9e4e8075ede4259c9"), looks := false }, kinds := [], alts := [], laidByText := true, laidKinds := [.data], laidTests := true, laidLooks := .later }
def ShaPiecesUptoCardSaid : Prop := Claim7.holds Tryd.pinned (.plain (OpenSpec.upto shaPiecesSpec)) shaPiecesUptoCard

/-- THE SECOND FORM's CARD OF 'lethelaw02.ShaApart'. -/
def shaApartUptoCard : Claim7 := { stood := { row := shaApartUptoRow, standIns := [], harness := (true, "581455bc9bc6334607c8ab507b07e56e9757560f3fcd27c9e4e8075ede4259c9"), looks := false }, kinds := [], alts := [], laidByText := true, laidKinds := [.data], laidTests := true, laidLooks := .later }
def ShaApartUptoCardSaid : Prop := Claim7.holds Tryd.pinned (.plain (OpenSpec.upto shaApartSpec)) shaApartUptoCard

/-- THE SECOND FORM's CARD OF 'lethelaw02.ShaIsBlocks'. -/
def shaIsBlocksUptoCard : Claim7 := { stood := { row := shaIsBlocksUptoRow, standIns := [], harness := (true, "581455bc9bc6334607c8ab507b07e56e9757560f3fcd27c9e4e8075ede4259c9"), looks := false }, kinds := [], alts := [], laidByText := true, laidKinds := [.data], laidTests := true, laidLooks := .later }
def ShaIsBlocksUptoCardSaid : Prop := Claim7.holds Tryd.pinned (.plain (OpenSpec.upto shaIsBlocksSpec)) shaIsBlocksUptoCard

/-- THE SECOND FORM's CARD OF 'lethelaw02.ShaExact'. -/
def shaExactUptoCard : Claim7 := { stood := { row := shaExactUptoRow, standIns := [], harness := (true, "581455bc9bc6334607c8ab507b07e56e9757560f3fcd27c9e4e8075ede4259c9"), looks := false }, kinds := [], alts := [], laidByText := true, laidKinds := [.data, .data, .data], laidTests := true, laidLooks := .later }
def ShaExactUptoCardSaid : Prop := Claim7.holds Tryd.pinned (.plain (OpenSpec.upto shaExactSpec)) shaExactUptoCard
end Rows
end Go.Proofs.YtdkgngmbohdmdaaDoor
