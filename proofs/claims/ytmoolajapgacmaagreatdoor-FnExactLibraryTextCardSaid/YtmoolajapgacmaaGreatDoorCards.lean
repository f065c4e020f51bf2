/-
  DERIVED. GIVEN WITH THE SEED: THE CARDS: each row of YtmoolajapgacmaaGreatDoorRows.lean that lists a variable, with what it lists TIED to the program's text (the seventh form; the later family's looks); each row that meets fmt, with fmt's text TOLD by the authors' own Lean function (tested against real Go, not proved from fmt's source: count such statements apart). THE CARD IS WHAT COUNTS. Prove the row's statement (the work); the ties are given (YtmoolajapgacmaaGreatDoorTie.lean); close each card by the builder's one call (the guide's Derived/Test/ToyasCard.lean, 'card_holds'). Laid BY PROGRAM, IN A SANDBOX (cutbox-door.mjs). By AI agents, Wed Nov 11 2026. No macro, syntax, notation, axiom, sorry.
-/
import Derived.Test.YtmoolajapgacmaaGreatDoorRows
import GoSem.ClaimSeven
namespace Go.Proofs.YtmoolajapgacmaaGreatDoor
namespace Rows

/-- THE TIED CARD OF 'laws.FnLibraryText'. -/
def fnLibraryTextCard : Claim7 := { stood := { row := fnLibraryTextRow, standIns := [], harness := (true, "0954dd97e5e05b22829ad74467f1bb9c746fac2b5f7944396cd439171f4e171c"), looks := true }, kinds := [], alts := [], laidByText := true, laidKinds := [.data, .data, .data, .data, .sentinel, .sentinel, .pinned], laidTests := true, laidLooks := .later }
def FnLibraryTextCardSaid : Prop := Claim7.holds Tryz.pinned (.plain (OpenSpec.ofChange fnLibraryTextSpec)) fnLibraryTextCard

/-- THE TIED CARD OF 'laws.FnLibraryLines'. -/
def fnLibraryLinesCard : Claim7 := { stood := { row := fnLibraryLinesRow, standIns := [], harness := (true, "0954dd97e5e05b22829ad74467f1bb9c746fac2b5f7944396cd439171f4e171c"), looks := true }, kinds := [], alts := [], laidByText := true, laidKinds := [.data, .data, .data, .data, .sentinel, .sentinel, .pinned], laidTests := true, laidLooks := .later }
def FnLibraryLinesCardSaid : Prop := Claim7.holds Tryz.pinned (.plain (OpenSpec.ofChange fnLibraryLinesSpec)) fnLibraryLinesCard

/-- THE TIED CARD OF 'laws.FnExactCellText'. -/
def fnExactCellTextCard : Claim7 := { stood := { row := fnExactCellTextRow, standIns := [], harness := (true, "0954dd97e5e05b22829ad74467f1bb9c746fac2b5f7944396cd439171f4e171c"), looks := true }, kinds := [], alts := [], laidByText := true, laidKinds := [.data, .data, .data], laidTests := true, laidLooks := .later }
def FnExactCellTextCardSaid : Prop := Claim7.holds Tryz.pinned (.plain (OpenSpec.ofChange fnExactCellTextSpec)) fnExactCellTextCard

/-- THE TIED CARD OF 'laws.FnExactLibraryText'. -/
def fnExactLibraryTextCard : Claim7 := { stood := { row := fnExactLibraryTextRow, standIns := [], harness := (true, "0954dd97e5e05b22829ad74467f1bb9c746fac2b5f7944396cd439171f4e171c"), looks := true }, kinds := [], alts := [], laidByText := true, laidKinds := [.data, .data, .data], laidTests := true, laidLooks := .later }
def FnExactLibraryTextCardSaid : Prop := Claim7.holds Tryz.pinned (.plain (OpenSpec.ofChange fnExactLibraryTextSpec)) fnExactLibraryTextCard

/-- THE TIED CARD OF 'laws.FnExactReadLibrary'. -/
def fnExactReadLibraryCard : Claim7 := { stood := { row := fnExactReadLibraryRow, standIns := [], harness := (true, "0954dd97e5e05b22829ad74467f1bb9c746fac2b5f7944396cd439171f4e171c"), looks := true }, kinds := [], alts := [], laidByText := true, laidKinds := [.data, .data, .data, .data, .sentinel, .sentinel, .pinned], laidTests := true, laidLooks := .later }
def FnExactReadLibraryCardSaid : Prop := Claim7.holds Tryz.pinned (.plain (OpenSpec.ofChange fnExactReadLibrarySpec)) fnExactReadLibraryCard

/-- THE TIED CARD OF 'laws.FnExactArcText'. -/
def fnExactArcTextCard : Claim7 := { stood := { row := fnExactArcTextRow, standIns := [], harness := (true, "0954dd97e5e05b22829ad74467f1bb9c746fac2b5f7944396cd439171f4e171c"), looks := true }, kinds := [], alts := [], laidByText := true, laidKinds := [.data, .data, .data], laidTests := true, laidLooks := .later }
def FnExactArcTextCardSaid : Prop := Claim7.holds Tryz.pinned (.plain (OpenSpec.ofChange fnExactArcTextSpec)) fnExactArcTextCard

/-- THE TIED CARD OF 'laws.FnExactKindOfLine'. -/
def fnExactKindOfLineCard : Claim7 := { stood := { row := fnExactKindOfLineRow, standIns := [], harness := (true, "0954dd97e5e05b22829ad74467f1bb9c746fac2b5f7944396cd439171f4e171c"), looks := true }, kinds := [], alts := [], laidByText := true, laidKinds := [.data, .data, .data, .data, .sentinel, .sentinel, .pinned], laidTests := true, laidLooks := .later }
def FnExactKindOfLineCardSaid : Prop := Claim7.holds Tryz.pinned (.plain (OpenSpec.ofChange fnExactKindOfLineSpec)) fnExactKindOfLineCard

/-- THE TIED CARD OF 'laws.FnExactCellDigest'. -/
def fnExactCellDigestCard : Claim7 := { stood := { row := fnExactCellDigestRow, standIns := [], harness := (true, "0954dd97e5e05b22829ad74467f1bb9c746fac2b5f7944396cd439171f4e171c"), looks := true }, kinds := [], alts := [], laidByText := true, laidKinds := [.data, .data, .data], laidTests := true, laidLooks := .later }
def FnExactCellDigestCardSaid : Prop := Claim7.holds Tryz.pinned (.plain (OpenSpec.ofChange fnExactCellDigestSpec)) fnExactCellDigestCard

/-- THE TIED CARD OF 'laws.FnExactSameLibrary'. -/
def fnExactSameLibraryCard : Claim7 := { stood := { row := fnExactSameLibraryRow, standIns := [], harness := (true, "0954dd97e5e05b22829ad74467f1bb9c746fac2b5f7944396cd439171f4e171c"), looks := true }, kinds := [], alts := [], laidByText := true, laidKinds := [.data, .data, .data], laidTests := true, laidLooks := .later }
def FnExactSameLibraryCardSaid : Prop := Claim7.holds Tryz.pinned (.plain (OpenSpec.ofChange fnExactSameLibrarySpec)) fnExactSameLibraryCard

/-- THE SECOND FORM's CARD OF 'laws.FnLibraryText'. -/
def fnLibraryTextUptoCard : Claim7 := { stood := { row := fnLibraryTextUptoRow, standIns := [], harness := (true, "0954dd97e5e05b22829ad74467f1bb9c746fac2b5f7944396cd439171f4e171c"), looks := true }, kinds := [], alts := [], laidByText := true, laidKinds := [.data, .data, .data, .data, .sentinel, .sentinel, .pinned], laidTests := true, laidLooks := .later }
def FnLibraryTextUptoCardSaid : Prop := Claim7.holds Tryz.pinned (.plain (OpenSpec.upto fnLibraryTextSpec)) fnLibraryTextUptoCard

/-- THE SECOND FORM's CARD OF 'laws.FnLibraryLines'. -/
def fnLibraryLinesUptoCard : Claim7 := { stood := { row := fnLibraryLinesUptoRow, standIns := [], harness := (true, "0954dd97e5e05b22829ad74467f1bb9c746fac2b5f7944396cd439171f4e171c"), looks := true }, kinds := [], alts := [], laidByText := true, laidKinds := [.data, .data, .data, .data, .sentinel, .sentinel, .pinned], laidTests := true, laidLooks := .later }
def FnLibraryLinesUptoCardSaid : Prop := Claim7.holds Tryz.pinned (.plain (OpenSpec.upto fnLibraryLinesSpec)) fnLibraryLinesUptoCard

/-- THE SECOND FORM's CARD OF 'laws.FnExactCellText'. -/
def fnExactCellTextUptoCard : Claim7 := { stood := { row := fnExactCellTextUptoRow, standIns := [], harness := (true, "0954dd97e5e05b22829ad74467f1bb9c746fac2b5f7944396cd439171f4e171c"), looks := true }, kinds := [], alts := [], laidByText := true, laidKinds := [.data, .data, .data], laidTests := true, laidLooks := .later }
def FnExactCellTextUptoCardSaid : Prop := Claim7.holds Tryz.pinned (.plain (OpenSpec.upto fnExactCellTextSpec)) fnExactCellTextUptoCard

/-- THE SECOND FORM's CARD OF 'laws.FnExactLibraryText'. -/
def fnExactLibraryTextUptoCard : Claim7 := { stood := { row := fnExactLibraryTextUptoRow, standIns := [], harness := (true, "0954dd97e5e05b22829ad74467f1bb9c746fac2b5f7944396cd439171f4e171c"), looks := true }, kinds := [], alts := [], laidByText := true, laidKinds := [.data, .data, .data], laidTests := true, laidLooks := .later }
def FnExactLibraryTextUptoCardSaid : Prop := Claim7.holds Tryz.pinned (.plain (OpenSpec.upto fnExactLibraryTextSpec)) fnExactLibraryTextUptoCard

/-- THE SECOND FORM's CARD OF 'laws.FnExactReadLibrary'. -/
def fnExactReadLibraryUptoCard : Claim7 := { stood := { row := fnExactReadLibraryUptoRow, standIns := [], harness := (true, "0954dd97e5e05b22829ad74467f1bb9c746fac2b5f7944396cd439171f4e171c"), looks := true }, kinds := [], alts := [], laidByText := true, laidKinds := [.data, .data, .data, .data, .sentinel, .sentinel, .pinned], laidTests := true, laidLooks := .later }
def FnExactReadLibraryUptoCardSaid : Prop := Claim7.holds Tryz.pinned (.plain (OpenSpec.upto fnExactReadLibrarySpec)) fnExactReadLibraryUptoCard

/-- THE SECOND FORM's CARD OF 'laws.FnExactArcText'. -/
def fnExactArcTextUptoCard : Claim7 := { stood := { row := fnExactArcTextUptoRow, standIns := [], harness := (true, "0954dd97e5e05b22829ad74467f1bb9c746fac2b5f7944396cd439171f4e171c"), looks := true }, kinds := [], alts := [], laidByText := true, laidKinds := [.data, .data, .data], laidTests := true, laidLooks := .later }
def FnExactArcTextUptoCardSaid : Prop := Claim7.holds Tryz.pinned (.plain (OpenSpec.upto fnExactArcTextSpec)) fnExactArcTextUptoCard

/-- THE SECOND FORM's CARD OF 'laws.FnExactKindOfLine'. -/
def fnExactKindOfLineUptoCard : Claim7 := { stood := { row := fnExactKindOfLineUptoRow, standIns := [], harness := (true, "0954dd97e5e05b22829ad74467f1bb9c746fac2b5f7944396cd439171f4e171c"), looks := true }, kinds := [], alts := [], laidByText := true, laidKinds := [.data, .data, .data, .data, .sentinel, .sentinel, .pinned], laidTests := true, laidLooks := .later }
def FnExactKindOfLineUptoCardSaid : Prop := Claim7.holds Tryz.pinned (.plain (OpenSpec.upto fnExactKindOfLineSpec)) fnExactKindOfLineUptoCard

/-- THE SECOND FORM's CARD OF 'laws.FnExactCellDigest'. -/
def fnExactCellDigestUptoCard : Claim7 := { stood := { row := fnExactCellDigestUptoRow, standIns := [], harness := (true, "0954dd97e5e05b22829ad74467f1bb9c746fac2b5f7944396cd439171f4e171c"), looks := true }, kinds := [], alts := [], laidByText := true, laidKinds := [.data, .data, .data], laidTests := true, laidLooks := .later }
def FnExactCellDigestUptoCardSaid : Prop := Claim7.holds Tryz.pinned (.plain (OpenSpec.upto fnExactCellDigestSpec)) fnExactCellDigestUptoCard

/-- THE SECOND FORM's CARD OF 'laws.FnExactSameLibrary'. -/
def fnExactSameLibraryUptoCard : Claim7 := { stood := { row := fnExactSameLibraryUptoRow, standIns := [], harness := (true, "0954dd97e5e05b22829ad74467f1bb9c746fac2b5f7944396cd439171f4e171c"), looks := true }, kinds := [], alts := [], laidByText := true, laidKinds := [.data, .data, .data], laidTests := true, laidLooks := .later }
def FnExactSameLibraryUptoCardSaid : Prop := Claim7.holds Tryz.pinned (.plain (OpenSpec.upto fnExactSameLibrarySpec)) fnExactSameLibraryUptoCard
end Rows
end Go.Proofs.YtmoolajapgacmaaGreatDoor
