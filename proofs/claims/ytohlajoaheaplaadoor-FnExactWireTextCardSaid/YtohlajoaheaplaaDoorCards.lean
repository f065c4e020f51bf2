/-
  DERIVED. GIVEN WITH THE SEED: THE CARDS: each row of YtohlajoaheaplaaDoorRows.lean that lists a variable, with what it lists TIED to the program's text (the seventh form; the later family's looks); each row that meets fmt, with fmt's text TOLD by the authors' own Lean function (tested against real Go, not proved from fmt's source: count such statements apart). THE CARD IS WHAT COUNTS. Prove the row's statement (the work); the ties are given (YtohlajoaheaplaaDoorTie.lean); close each card by the builder's one call (the guide's Derived/Test/ToyasCard.lean, 'card_holds'). Laid BY PROGRAM, IN A SANDBOX (cutbox-door.mjs). By AI agents, Wed Nov 11 2026. No macro, syntax, notation, axiom, sorry.
-/
import Derived.Test.YtohlajoaheaplaaDoorRows
import GoSem.ClaimSeven
namespace Go.Proofs.YtohlajoaheaplaaDoor
namespace Rows

/-- THE TIED CARD OF 'laws.FnExactWireText'. -/
def fnExactWireTextCard : Claim7 := { stood := { row := fnExactWireTextRow, standIns := [], harness := (true, "4980f58376da69fbcc4a8d0d68b0063f039649bda69f470b0a8b0e1b9dd0f73a"), looks := true }, kinds := [], alts := [], laidByText := true, laidKinds := [.data, .data, .data], laidTests := true, laidLooks := .later }
def FnExactWireTextCardSaid : Prop := Claim7.holds Tryd.pinned (.plain (OpenSpec.ofChange fnExactWireTextSpec)) fnExactWireTextCard

/-- THE TIED CARD OF 'laws.FnExactReadWire'. -/
def fnExactReadWireCard : Claim7 := { stood := { row := fnExactReadWireRow, standIns := [], harness := (true, "4980f58376da69fbcc4a8d0d68b0063f039649bda69f470b0a8b0e1b9dd0f73a"), looks := true }, kinds := [], alts := [], laidByText := true, laidKinds := [.data, .data, .data, .data, .sentinel, .sentinel, .pinned], laidTests := true, laidLooks := .later }
def FnExactReadWireCardSaid : Prop := Claim7.holds Tryd.pinned (.plain (OpenSpec.ofChange fnExactReadWireSpec)) fnExactReadWireCard

/-- THE SECOND FORM's CARD OF 'laws.FnExactWireText'. -/
def fnExactWireTextUptoCard : Claim7 := { stood := { row := fnExactWireTextUptoRow, standIns := [], harness := (true, "4980f58376da69fbcc4a8d0d68b0063f039649bda69f470b0a8b0e1b9dd0f73a"), looks := true }, kinds := [], alts := [], laidByText := true, laidKinds := [.data, .data, .data], laidTests := true, laidLooks := .later }
def FnExactWireTextUptoCardSaid : Prop := Claim7.holds Tryd.pinned (.plain (OpenSpec.upto fnExactWireTextSpec)) fnExactWireTextUptoCard

/-- THE SECOND FORM's CARD OF 'laws.FnExactReadWire'. -/
def fnExactReadWireUptoCard : Claim7 := { stood := { row := fnExactReadWireUptoRow, standIns := [], harness := (true, "4980f58376da69fbcc4a8d0d68b0063f039649bda69f470b0a8b0e1b9dd0f73a"), looks := true }, kinds := [], alts := [], laidByText := true, laidKinds := [.data, .data, .data, .data, .sentinel, .sentinel, .pinned], laidTests := true, laidLooks := .later }
def FnExactReadWireUptoCardSaid : Prop := Claim7.holds Tryd.pinned (.plain (OpenSpec.upto fnExactReadWireSpec)) fnExactReadWireUptoCard
end Rows
end Go.Proofs.YtohlajoaheaplaaDoor
