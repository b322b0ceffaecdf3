/-
  DERIVED. GIVEN WITH THE SEED: THE CARDS: each row of YtookojgemipakaaDoorRows.lean that lists a variable, with what it lists TIED to the program's text (the seventh form; the later family's looks); each row that meets fmt, with fmt's text TOLD by the authors' own Lean function (tested against real Go, not proved from fmt's source: count such statements apart). THE CARD IS WHAT COUNTS. Prove the row's statement (the work); the ties are given (YtookojgemipakaaDoorTie.lean); close each card by the builder's one call (the guide's Derived/Test/ToyasCard.lean, 'card_holds'). Laid BY PROGRAM, IN A SANDBOX (cutbox-door.mjs). By AI agents, Wed Nov 11 2026. No macro, syntax, notation, axiom, sorry.
-/
import Derived.Test.YtookojgemipakaaDoorRows
import GoSem.ClaimSeven
namespace Go.Proofs.YtookojgemipakaaDoor
namespace Rows

/-- THE TIED CARD OF 'lamplighterlaw04.EventCheck'. -/
def eventCheckCard : Claim7 := { stood := { row := eventCheckRow, standIns := [], harness := (true, "0521e0d3bb62e375e97f646c7044e17df10a82072647af6ea4b3278870484b59"), looks := false }, kinds := [], alts := [], laidByText := true, laidKinds := [.data, .pinned], laidTests := true, laidLooks := .later }
def EventCheckCardSaid : Prop := Claim7.holds Tryd.pinned (.plain (OpenSpec.ofChange eventCheckSpec)) eventCheckCard

/-- THE TIED CARD OF 'lamplighterlaw04.EventOrder'. -/
def eventOrderCard : Claim7 := { stood := { row := eventOrderRow, standIns := [], harness := (true, "0521e0d3bb62e375e97f646c7044e17df10a82072647af6ea4b3278870484b59"), looks := false }, kinds := [], alts := [], laidByText := true, laidKinds := [.data, .pinned], laidTests := true, laidLooks := .later }
def EventOrderCardSaid : Prop := Claim7.holds Tryd.pinned (.plain (OpenSpec.ofChange eventOrderSpec)) eventOrderCard

/-- THE TIED CARD OF 'lamplighterlaw04.EventFields'. -/
def eventFieldsCard : Claim7 := { stood := { row := eventFieldsRow, standIns := [], harness := (true, "0521e0d3bb62e375e97f646c7044e17df10a82072647af6ea4b3278870484b59"), looks := false }, kinds := [], alts := [], laidByText := true, laidKinds := [.data, .pinned], laidTests := true, laidLooks := .later }
def EventFieldsCardSaid : Prop := Claim7.holds Tryd.pinned (.plain (OpenSpec.ofChange eventFieldsSpec)) eventFieldsCard

/-- THE TIED CARD OF 'lamplighterlaw12.TermShows'. -/
def termShowsCard : Claim7 := { stood := { row := termShowsRow, standIns := [], harness := (true, "0521e0d3bb62e375e97f646c7044e17df10a82072647af6ea4b3278870484b59"), looks := false }, kinds := [], alts := [], laidByText := true, laidKinds := [.data, .pinned], laidTests := true, laidLooks := .later }
def TermShowsCardSaid : Prop := Claim7.holds Tryd.pinned (.plain (OpenSpec.ofChange termShowsSpec)) termShowsCard

/-- THE SECOND FORM's CARD OF 'lamplighterlaw04.EventCheck'. -/
def eventCheckUptoCard : Claim7 := { stood := { row := eventCheckUptoRow, standIns := [], harness := (true, "0521e0d3bb62e375e97f646c7044e17df10a82072647af6ea4b3278870484b59"), looks := false }, kinds := [], alts := [], laidByText := true, laidKinds := [.data, .pinned], laidTests := true, laidLooks := .later }
def EventCheckUptoCardSaid : Prop := Claim7.holds Tryd.pinned (.plain (OpenSpec.upto eventCheckSpec)) eventCheckUptoCard

/-- THE SECOND FORM's CARD OF 'lamplighterlaw04.EventOrder'. -/
def eventOrderUptoCard : Claim7 := { stood := { row := eventOrderUptoRow, standIns := [], harness := (true, "0521e0d3bb62e375e97f646c7044e17df10a82072647af6ea4b3278870484b59"), looks := false }, kinds := [], alts := [], laidByText := true, laidKinds := [.data, .pinned], laidTests := true, laidLooks := .later }
def EventOrderUptoCardSaid : Prop := Claim7.holds Tryd.pinned (.plain (OpenSpec.upto eventOrderSpec)) eventOrderUptoCard

/-- THE SECOND FORM's CARD OF 'lamplighterlaw04.EventFields'. -/
def eventFieldsUptoCard : Claim7 := { stood := { row := eventFieldsUptoRow, standIns := [], harness := (true, "0521e0d3bb62e375e97f646c7044e17df10a82072647af6ea4b3278870484b59"), looks := false }, kinds := [], alts := [], laidByText := true, laidKinds := [.data, .pinned], laidTests := true, laidLooks := .later }
def EventFieldsUptoCardSaid : Prop := Claim7.holds Tryd.pinned (.plain (OpenSpec.upto eventFieldsSpec)) eventFieldsUptoCard

/-- THE SECOND FORM's CARD OF 'lamplighterlaw12.TermShows'. -/
def termShowsUptoCard : Claim7 := { stood := { row := termShowsUptoRow, standIns := [], harness := (true, "0521e0d3bb62e375e97f646c7044e17df10a82072647af6ea4b3278870484b59"), looks := false }, kinds := [], alts := [], laidByText := true, laidKinds := [.data, .pinned], laidTests := true, laidLooks := .later }
def TermShowsUptoCardSaid : Prop := Claim7.holds Tryd.pinned (.plain (OpenSpec.upto termShowsSpec)) termShowsUptoCard
end Rows
end Go.Proofs.YtookojgemipakaaDoor
