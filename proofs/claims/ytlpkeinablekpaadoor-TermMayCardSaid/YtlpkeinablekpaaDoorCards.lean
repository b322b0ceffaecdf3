/-
  DERIVED. GIVEN WITH THE SEED: THE CARDS: each row of YtlpkeinablekpaaDoorRows.lean that lists a variable, with what it lists TIED to the program's text (the seventh form; the later family's looks); each row that meets fmt, with fmt's text TOLD by the authors' own Lean function (tested against real Go, not proved from fmt's source: count such statements apart). THE CARD IS WHAT COUNTS. Prove the row's statement (the work); the ties are given (YtlpkeinablekpaaDoorTie.lean); close each card by the builder's one call (the guide's Derived/Test/ToyasCard.lean, 'card_holds'). Laid BY PROGRAM, IN A SANDBOX (cutbox-door.mjs). By AI agents, Wed Nov 11 2026. No macro, syntax, notation, axiom, sorry.
-/
import Derived.Test.YtlpkeinablekpaaDoorRows
import GoSem.ClaimSeven
namespace Go.Proofs.YtlpkeinablekpaaDoor
namespace Rows

/-- THE TIED CARD OF 'lamplighterlaw12.TermNodes'. -/
def termNodesCard : Claim7 := { stood := { row := termNodesRow, standIns := [], harness := (true, "1fbc3cb6e2d83d1d8e0f896c5c92a14ff893613580926d0e6ebd376e93296b0c"), looks := false }, kinds := [], alts := [], laidByText := true, laidKinds := [.data, .pinned], laidTests := true, laidLooks := .later }
def TermNodesCardSaid : Prop := Claim7.holds Tryd.pinned (.plain (OpenSpec.ofChange termNodesSpec)) termNodesCard

/-- THE TIED CARD OF 'lamplighterlaw12.TermMay'. -/
def termMayCard : Claim7 := { stood := { row := termMayRow, standIns := [], harness := (true, "1fbc3cb6e2d83d1d8e0f896c5c92a14ff893613580926d0e6ebd376e93296b0c"), looks := false }, kinds := [], alts := [], laidByText := true, laidKinds := [.data, .pinned], laidTests := true, laidLooks := .later }
def TermMayCardSaid : Prop := Claim7.holds Tryd.pinned (.plain (OpenSpec.ofChange termMaySpec)) termMayCard

/-- THE TIED CARD OF 'lamplighterlaw02.ValueOrder'. -/
def valueOrderCard : Claim7 := { stood := { row := valueOrderRow, standIns := [], harness := (true, "1fbc3cb6e2d83d1d8e0f896c5c92a14ff893613580926d0e6ebd376e93296b0c"), looks := false }, kinds := [], alts := [], laidByText := true, laidKinds := [.data, .pinned], laidTests := true, laidLooks := .later }
def ValueOrderCardSaid : Prop := Claim7.holds Tryd.pinned (.plain (OpenSpec.ofChange valueOrderSpec)) valueOrderCard

/-- THE TIED CARD OF 'lamplighterlaw02.ValueTexts'. -/
def valueTextsCard : Claim7 := { stood := { row := valueTextsRow, standIns := [], harness := (true, "1fbc3cb6e2d83d1d8e0f896c5c92a14ff893613580926d0e6ebd376e93296b0c"), looks := false }, kinds := [], alts := [], laidByText := true, laidKinds := [.data, .pinned], laidTests := true, laidLooks := .later }
def ValueTextsCardSaid : Prop := Claim7.holds Tryd.pinned (.plain (OpenSpec.ofChange valueTextsSpec)) valueTextsCard

/-- THE TIED CARD OF 'lamplighterlaw02.ValueQuotes'. -/
def valueQuotesCard : Claim7 := { stood := { row := valueQuotesRow, standIns := [], harness := (true, "1fbc3cb6e2d83d1d8e0f896c5c92a14ff893613580926d0e6ebd376e93296b0c"), looks := false }, kinds := [], alts := [], laidByText := true, laidKinds := [.data, .pinned], laidTests := true, laidLooks := .later }
def ValueQuotesCardSaid : Prop := Claim7.holds Tryd.pinned (.plain (OpenSpec.ofChange valueQuotesSpec)) valueQuotesCard

/-- THE TIED CARD OF 'lamplighterlaw04.EventFields'. -/
def eventFieldsCard : Claim7 := { stood := { row := eventFieldsRow, standIns := [], harness := (true, "1fbc3cb6e2d83d1d8e0f896c5c92a14ff893613580926d0e6ebd376e93296b0c"), looks := false }, kinds := [], alts := [], laidByText := true, laidKinds := [.data, .pinned], laidTests := true, laidLooks := .later }
def EventFieldsCardSaid : Prop := Claim7.holds Tryd.pinned (.plain (OpenSpec.ofChange eventFieldsSpec)) eventFieldsCard

/-- THE SECOND FORM's CARD OF 'lamplighterlaw12.TermNodes'. -/
def termNodesUptoCard : Claim7 := { stood := { row := termNodesUptoRow, standIns := [], harness := (true, "1fbc3cb6e2d83d1d8e0f896c5c92a14ff893613580926d0e6ebd376e93296b0c"), looks := false }, kinds := [], alts := [], laidByText := true, laidKinds := [.data, .pinned], laidTests := true, laidLooks := .later }
def TermNodesUptoCardSaid : Prop := Claim7.holds Tryd.pinned (.plain (OpenSpec.upto termNodesSpec)) termNodesUptoCard

/-- THE SECOND FORM's CARD OF 'lamplighterlaw12.TermMay'. -/
def termMayUptoCard : Claim7 := { stood := { row := termMayUptoRow, standIns := [], harness := (true, "1fbc3cb6e2d83d1d8e0f896c5c92a14ff893613580926d0e6ebd376e93296b0c"), looks := false }, kinds := [], alts := [], laidByText := true, laidKinds := [.data, .pinned], laidTests := true, laidLooks := .later }
def TermMayUptoCardSaid : Prop := Claim7.holds Tryd.pinned (.plain (OpenSpec.upto termMaySpec)) termMayUptoCard

/-- THE SECOND FORM's CARD OF 'lamplighterlaw02.ValueOrder'. -/
def valueOrderUptoCard : Claim7 := { stood := { row := valueOrderUptoRow, standIns := [], harness := (true, "1fbc3cb6e2d83d1d8e0f896c5c92a14ff893613580926d0e6ebd376e93296b0c"), looks := false }, kinds := [], alts := [], laidByText := true, laidKinds := [.data, .pinned], laidTests := true, laidLooks := .later }
def ValueOrderUptoCardSaid : Prop := Claim7.holds Tryd.pinned (.plain (OpenSpec.upto valueOrderSpec)) valueOrderUptoCard

/-- THE SECOND FORM's CARD OF 'lamplighterlaw02.ValueTexts'. -/
def valueTextsUptoCard : Claim7 := { stood := { row := valueTextsUptoRow, standIns := [], harness := (true, "1fbc3cb6e2d83d1d8e0f896c5c92a14ff893613580926d0e6ebd376e93296b0c"), looks := false }, kinds := [], alts := [], laidByText := true, laidKinds := [.data, .pinned], laidTests := true, laidLooks := .later }
def ValueTextsUptoCardSaid : Prop := Claim7.holds Tryd.pinned (.plain (OpenSpec.upto valueTextsSpec)) valueTextsUptoCard

/-- THE SECOND FORM's CARD OF 'lamplighterlaw02.ValueQuotes'. -/
def valueQuotesUptoCard : Claim7 := { stood := { row := valueQuotesUptoRow, standIns := [], harness := (true, "1fbc3cb6e2d83d1d8e0f896c5c92a14ff893613580926d0e6ebd376e93296b0c"), looks := false }, kinds := [], alts := [], laidByText := true, laidKinds := [.data, .pinned], laidTests := true, laidLooks := .later }
def ValueQuotesUptoCardSaid : Prop := Claim7.holds Tryd.pinned (.plain (OpenSpec.upto valueQuotesSpec)) valueQuotesUptoCard

/-- THE SECOND FORM's CARD OF 'lamplighterlaw04.EventFields'. -/
def eventFieldsUptoCard : Claim7 := { stood := { row := eventFieldsUptoRow, standIns := [], harness := (true, "1fbc3cb6e2d83d1d8e0f896c5c92a14ff893613580926d0e6ebd376e93296b0c"), looks := false }, kinds := [], alts := [], laidByText := true, laidKinds := [.data, .pinned], laidTests := true, laidLooks := .later }
def EventFieldsUptoCardSaid : Prop := Claim7.holds Tryd.pinned (.plain (OpenSpec.upto eventFieldsSpec)) eventFieldsUptoCard
end Rows
end Go.Proofs.YtlpkeinablekpaaDoor
