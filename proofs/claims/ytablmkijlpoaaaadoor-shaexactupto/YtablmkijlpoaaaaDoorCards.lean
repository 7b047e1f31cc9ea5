/-
  DERIVED. GIVEN WITH THE SEED: THE CARDS: each row of YtablmkijlpoaaaaDoorRows.lean that lists a variable, with what it lists TIED to the program's text (the seventh form; the later family's looks); each row that meets fmt, with fmt's text TOLD by the authors' own Lean function (tested against real Go, not proved from fmt's source: count such statements apart). THE CARD IS WHAT COUNTS. Prove the row's statement (the work); the ties are given (YtablmkijlpoaaaaDoorTie.lean); close each card by the builder's one call (the guide's Derived/Test/ToyasCard.lean, 'card_holds'). Laid BY PROGRAM, IN A SANDBOX (cutbox-door.mjs). By AI agents, Wed Nov 11 2026. No macro, syntax, notation, axiom, sorry.
-/
import Derived.Test.YtablmkijlpoaaaaDoorRows
import GoSem.ClaimSeven
namespace Go.Proofs.YtablmkijlpoaaaaDoor
namespace Rows

/-- THE TIED CARD OF 'lethelaw02.ShaExact'. -/
def shaExactCard : Claim7 := { stood := { row := shaExactRow, standIns := [], harness := (true, "6c52304c4be9656c03c8e7dde050effb5ac17587ac3913739f67891295a76c7b"), looks := false }, kinds := [], alts := [], laidByText := true, laidKinds := [.data, .data, .data], laidTests := true, laidLooks := .later }
def ShaExactCardSaid : Prop := Claim7.holds Tryd.pinned (.plain (OpenSpec.ofChange shaExactSpec)) shaExactCard

/-- THE TIED CARD OF 'lethelaw03.KdfPads'. -/
def kdfPadsCard : Claim7 := { stood := { row := kdfPadsRow, standIns := [], harness := (true, "6c52304c4be9656c03c8e7dde050effb5ac17587ac3913739f67891295a76c7b"), looks := false }, kinds := [], alts := [], laidByText := true, laidKinds := [.data], laidTests := true, laidLooks := .later }
def KdfPadsCardSaid : Prop := Claim7.holds Tryd.pinned (.plain (OpenSpec.ofChange kdfPadsSpec)) kdfPadsCard

/-- THE TIED CARD OF 'lethelaw03.KdfIsHash'. -/
def kdfIsHashCard : Claim7 := { stood := { row := kdfIsHashRow, standIns := [], harness := (true, "6c52304c4be9656c03c8e7dde050effb5ac17587ac3913739f67891295a76c7b"), looks := false }, kinds := [], alts := [], laidByText := true, laidKinds := [.data], laidTests := true, laidLooks := .later }
def KdfIsHashCardSaid : Prop := Claim7.holds Tryd.pinned (.plain (OpenSpec.ofChange kdfIsHashSpec)) kdfIsHashCard

/-- THE TIED CARD OF 'lethelaw03.KdfExpands'. -/
def kdfExpandsCard : Claim7 := { stood := { row := kdfExpandsRow, standIns := [], harness := (true, "6c52304c4be9656c03c8e7dde050effb5ac17587ac3913739f67891295a76c7b"), looks := false }, kinds := [], alts := [], laidByText := true, laidKinds := [.data], laidTests := true, laidLooks := .later }
def KdfExpandsCardSaid : Prop := Claim7.holds Tryd.pinned (.plain (OpenSpec.ofChange kdfExpandsSpec)) kdfExpandsCard

/-- THE TIED CARD OF 'lethelaw03.KdfBounds'. -/
def kdfBoundsCard : Claim7 := { stood := { row := kdfBoundsRow, standIns := [], harness := (true, "6c52304c4be9656c03c8e7dde050effb5ac17587ac3913739f67891295a76c7b"), looks := false }, kinds := [], alts := [], laidByText := true, laidKinds := [.data], laidTests := true, laidLooks := .later }
def KdfBoundsCardSaid : Prop := Claim7.holds Tryd.pinned (.plain (OpenSpec.ofChange kdfBoundsSpec)) kdfBoundsCard

/-- THE TIED CARD OF 'lethelaw03.KdfKeys'. -/
def kdfKeysCard : Claim7 := { stood := { row := kdfKeysRow, standIns := [], harness := (true, "6c52304c4be9656c03c8e7dde050effb5ac17587ac3913739f67891295a76c7b"), looks := false }, kinds := [], alts := [], laidByText := true, laidKinds := [.data], laidTests := true, laidLooks := .later }
def KdfKeysCardSaid : Prop := Claim7.holds Tryd.pinned (.plain (OpenSpec.ofChange kdfKeysSpec)) kdfKeysCard

/-- THE SECOND FORM's CARD OF 'lethelaw02.ShaExact'. -/
def shaExactUptoCard : Claim7 := { stood := { row := shaExactUptoRow, standIns := [], harness := (true, "6c52304c4be9656c03c8e7dde050effb5ac17587ac3913739f67891295a76c7b"), looks := false }, kinds := [], alts := [], laidByText := true, laidKinds := [.data, .data, .data], laidTests := true, laidLooks := .later }
def ShaExactUptoCardSaid : Prop := Claim7.holds Tryd.pinned (.plain (OpenSpec.upto shaExactSpec)) shaExactUptoCard

/-- THE SECOND FORM's CARD OF 'lethelaw03.KdfPads'. -/
def kdfPadsUptoCard : Claim7 := { stood := { row := kdfPadsUptoRow, standIns := [], harness := (true, "6c52304c4be9656c03c8e7dde050effb5ac17587ac3913739f67891295a76c7b"), looks := false }, kinds := [], alts := [], laidByText := true, laidKinds := [.data], laidTests := true, laidLooks := .later }
def KdfPadsUptoCardSaid : Prop := Claim7.holds Tryd.pinned (.plain (OpenSpec.upto kdfPadsSpec)) kdfPadsUptoCard

/-- THE SECOND FORM's CARD OF 'lethelaw03.KdfIsHash'. -/
def kdfIsHashUptoCard : Claim7 := { stood := { row := kdfIsHashUptoRow, standIns := [], harness := (true, "6c52304c4be9656c03c8e7dde050effb5ac17587ac3913739f67891295a76c7b"), looks := false }, kinds := [], alts := [], laidByText := true, laidKinds := [.data], laidTests := true, laidLooks := .later }
def KdfIsHashUptoCardSaid : Prop := Claim7.holds Tryd.pinned (.plain (OpenSpec.upto kdfIsHashSpec)) kdfIsHashUptoCard

/-- THE SECOND FORM's CARD OF 'lethelaw03.KdfExpands'. -/
def kdfExpandsUptoCard : Claim7 := { stood := { row := kdfExpandsUptoRow, standIns := [], harness := (true, "6c52304c4be9656c03c8e7dde050effb5ac17587ac3913739f67891295a76c7b"), looks := false }, kinds := [], alts := [], laidByText := true, laidKinds := [.data], laidTests := true, laidLooks := .later }
def KdfExpandsUptoCardSaid : Prop := Claim7.holds Tryd.pinned (.plain (OpenSpec.upto kdfExpandsSpec)) kdfExpandsUptoCard

/-- THE SECOND FORM's CARD OF 'lethelaw03.KdfBounds'. -/
def kdfBoundsUptoCard : Claim7 := { stood := { row := kdfBoundsUptoRow, standIns := [], harness := (true, "6c52304c4be9656c03c8e7dde050effb5ac17587ac3913739f67891295a76c7b"), looks := false }, kinds := [], alts := [], laidByText := true, laidKinds := [.data], laidTests := true, laidLooks := .later }
def KdfBoundsUptoCardSaid : Prop := Claim7.holds Tryd.pinned (.plain (OpenSpec.upto kdfBoundsSpec)) kdfBoundsUptoCard

/-- THE SECOND FORM's CARD OF 'lethelaw03.KdfKeys'. -/
def kdfKeysUptoCard : Claim7 := { stood := { row := kdfKeysUptoRow, standIns := [], harness := (true, "6c52304c4be9656c03c8e7dde050effb5ac17587ac3913739f67891295a76c7b"), looks := false }, kinds := [], alts := [], laidByText := true, laidKinds := [.data], laidTests := true, laidLooks := .later }
def KdfKeysUptoCardSaid : Prop := Claim7.holds Tryd.pinned (.plain (OpenSpec.upto kdfKeysSpec)) kdfKeysUptoCard
end Rows
end Go.Proofs.YtablmkijlpoaaaaDoor
