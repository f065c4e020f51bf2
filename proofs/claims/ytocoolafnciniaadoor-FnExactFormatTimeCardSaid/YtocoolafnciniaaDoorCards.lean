/-
  DERIVED. GIVEN WITH THE SEED: THE CARDS: each row of YtocoolafnciniaaDoorRows.lean that lists a variable, with what it lists TIED to the program's text (the seventh form; the later family's looks); each row that meets fmt, with fmt's text TOLD by the authors' own Lean function (tested against real Go, not proved from fmt's source: count such statements apart). THE CARD IS WHAT COUNTS. Prove the row's statement (the work); the ties are given (YtocoolafnciniaaDoorTie.lean); close each card by the builder's one call (the guide's Derived/Test/ToyasCard.lean, 'card_holds'). Laid BY PROGRAM, IN A SANDBOX (cutbox-door.mjs). By AI agents, Wed Nov 11 2026. No macro, syntax, notation, axiom, sorry.
-/
import Derived.Test.YtocoolafnciniaaDoorRows
import GoSem.ClaimSeven
namespace Go.Proofs.YtocoolafnciniaaDoor
namespace Rows

/-- THE TIED CARD OF 'laws.FnTimeText'. -/
def fnTimeTextCard : Claim7 := { stood := { row := fnTimeTextRow, standIns := [], harness := (true, "42ed59b2815b94197332290c6351ea9fe679fe20d85f2fbeeb59c5c1ebb758f0"), looks := true }, kinds := [], alts := [], laidByText := true, laidKinds := [.data, .data, .data, .sentinel, .sentinel], laidTests := true, laidLooks := .later }
def FnTimeTextCardSaid : Prop := Claim7.holds Tryd.pinned (.plain (OpenSpec.ofChange fnTimeTextSpec)) fnTimeTextCard

/-- THE TIED CARD OF 'laws.FnExactFormatTime'. -/
def fnExactFormatTimeCard : Claim7 := { stood := { row := fnExactFormatTimeRow, standIns := [], harness := (true, "42ed59b2815b94197332290c6351ea9fe679fe20d85f2fbeeb59c5c1ebb758f0"), looks := true }, kinds := [], alts := [], laidByText := true, laidKinds := [.data, .data, .data], laidTests := true, laidLooks := .later }
def FnExactFormatTimeCardSaid : Prop := Claim7.holds Tryd.pinned (.plain (OpenSpec.ofChange fnExactFormatTimeSpec)) fnExactFormatTimeCard

/-- THE TIED CARD OF 'laws.FnExactParseTime'. -/
def fnExactParseTimeCard : Claim7 := { stood := { row := fnExactParseTimeRow, standIns := [], harness := (true, "42ed59b2815b94197332290c6351ea9fe679fe20d85f2fbeeb59c5c1ebb758f0"), looks := true }, kinds := [], alts := [], laidByText := true, laidKinds := [.data, .data, .data, .sentinel, .sentinel], laidTests := true, laidLooks := .later }
def FnExactParseTimeCardSaid : Prop := Claim7.holds Tryd.pinned (.plain (OpenSpec.ofChange fnExactParseTimeSpec)) fnExactParseTimeCard

/-- THE SECOND FORM's CARD OF 'laws.FnTimeText'. -/
def fnTimeTextUptoCard : Claim7 := { stood := { row := fnTimeTextUptoRow, standIns := [], harness := (true, "42ed59b2815b94197332290c6351ea9fe679fe20d85f2fbeeb59c5c1ebb758f0"), looks := true }, kinds := [], alts := [], laidByText := true, laidKinds := [.data, .data, .data, .sentinel, .sentinel], laidTests := true, laidLooks := .later }
def FnTimeTextUptoCardSaid : Prop := Claim7.holds Tryd.pinned (.plain (OpenSpec.upto fnTimeTextSpec)) fnTimeTextUptoCard

/-- THE SECOND FORM's CARD OF 'laws.FnExactFormatTime'. -/
def fnExactFormatTimeUptoCard : Claim7 := { stood := { row := fnExactFormatTimeUptoRow, standIns := [], harness := (true, "42ed59b2815b94197332290c6351ea9fe679fe20d85f2fbeeb59c5c1ebb758f0"), looks := true }, kinds := [], alts := [], laidByText := true, laidKinds := [.data, .data, .data], laidTests := true, laidLooks := .later }
def FnExactFormatTimeUptoCardSaid : Prop := Claim7.holds Tryd.pinned (.plain (OpenSpec.upto fnExactFormatTimeSpec)) fnExactFormatTimeUptoCard

/-- THE SECOND FORM's CARD OF 'laws.FnExactParseTime'. -/
def fnExactParseTimeUptoCard : Claim7 := { stood := { row := fnExactParseTimeUptoRow, standIns := [], harness := (true, "42ed59b2815b94197332290c6351ea9fe679fe20d85f2fbeeb59c5c1ebb758f0"), looks := true }, kinds := [], alts := [], laidByText := true, laidKinds := [.data, .data, .data, .sentinel, .sentinel], laidTests := true, laidLooks := .later }
def FnExactParseTimeUptoCardSaid : Prop := Claim7.holds Tryd.pinned (.plain (OpenSpec.upto fnExactParseTimeSpec)) fnExactParseTimeUptoCard
end Rows
end Go.Proofs.YtocoolafnciniaaDoor
