/-
  No cell of these rows narrows 'for every input' (looked for: loops, veiled, ifaces, maps, wideKeys, modest, calm, conditions, laid).
  DERIVED. THE GIVEN ROWS OF THIS SEAT. 12 by the template 'for every input the law returns true; each argument reads behind the call as it read before'; 0 by the template 'total and deterministic' (their statements: YtmkofjdmjilpiaaTotals.lean).
  GIVEN WITH THE SEED: the statements are not yours to turn. If you find one false, say at which input.
  Laid BY PROGRAM, IN A SANDBOX (cutbox-rows.mjs): the forced cells as the released guide's own fill.sh prints them over the translation 05e8ef4e8553d656… (all of the seat's roots in one cut). By AI agents, Wed Nov 11 2026. No macro, syntax, notation, axiom, sorry.
-/
import Derived.Test.YtmkofjdmjilpiaaChecked
import GoSem.Claim
import GoSem.ClaimJoined
import GoSem.ClaimMapViews
import Derived.JoinedTies
import Derived.KernelRfl
namespace Go.Proofs.Ytmkofjdmjilpiaa
/- THE CELL 'sum', in the pinned program and in every row, IS THE sha256 OF THE DUMP (.gsa) THAT YtmkofjdmjilpiaaProg.lean LOADS. Nothing in Lean hashes anything: it is a label: what it is worth is what the hold of that sum in a sandbox is worth. -/
noncomputable def Try.pinned : Pinned := { name := "ytmkofjdmjilpiaa", sum := "05e8ef4e8553d656c1c870a6719601978eb30aa89ae2406b980f6b12492b0043", checked := Try.checked }
namespace Rows
def none {H : Type} : Left H := { results := [], args := [] }

/-- 'lamplighterlaw39.HashSums': WHATEVER THE INPUT: true; the input reads as it did. -/
def hashSumsSpec : ChangeSpec := { name := "hashSums", fn := fun _ => fun
  | [d1, d2] => { results := [.lit (.bool true)], args := [d1, d2] }
  | _ => none }
def hashSumsRow : OpenClaim := { program := "ytmkofjdmjilpiaa", sum := "05e8ef4e8553d656c1c870a6719601978eb30aa89ae2406b980f6b12492b0043", func := "lamplighter/lamplighterlaw39.HashSums", spec := "hashSums", apart := false }
def HashSumsSaid : Prop := hashSumsRow.holds Try.pinned (OpenSpec.ofChange hashSumsSpec)

/-- ITS FALSE NEIGHBOUR: 'it returns false'. Refute it at one input. -/
def hashSumsWrong : ChangeSpec := { name := "hashSums", fn := fun _ => fun
  | [d1, d2] => { results := [.lit (.bool false)], args := [d1, d2] }
  | _ => none }
def HashSumsWrongFalsely : Prop := hashSumsRow.holds Try.pinned (OpenSpec.ofChange hashSumsWrong)

/-- 'lamplighterlaw39.HashSpread': WHATEVER THE INPUT: true; the input reads as it did. -/
def hashSpreadSpec : ChangeSpec := { name := "hashSpread", fn := fun _ => fun
  | [d1, d2] => { results := [.lit (.bool true)], args := [d1, d2] }
  | _ => none }
def hashSpreadRow : OpenClaim := { program := "ytmkofjdmjilpiaa", sum := "05e8ef4e8553d656c1c870a6719601978eb30aa89ae2406b980f6b12492b0043", func := "lamplighter/lamplighterlaw39.HashSpread", spec := "hashSpread", apart := false }
def HashSpreadSaid : Prop := hashSpreadRow.holds Try.pinned (OpenSpec.ofChange hashSpreadSpec)

/-- ITS FALSE NEIGHBOUR: 'it returns false'. Refute it at one input. -/
def hashSpreadWrong : ChangeSpec := { name := "hashSpread", fn := fun _ => fun
  | [d1, d2] => { results := [.lit (.bool false)], args := [d1, d2] }
  | _ => none }
def HashSpreadWrongFalsely : Prop := hashSpreadRow.holds Try.pinned (OpenSpec.ofChange hashSpreadWrong)

/-- 'lamplighterlaw27.MarkGoes': WHATEVER THE INPUT: true; the input reads as it did. -/
def markGoesSpec : ChangeSpec := { name := "markGoes", fn := fun _ => fun
  | [d1, d2] => { results := [.lit (.bool true)], args := [d1, d2] }
  | _ => none }
def markGoesRow : OpenClaim := { program := "ytmkofjdmjilpiaa", sum := "05e8ef4e8553d656c1c870a6719601978eb30aa89ae2406b980f6b12492b0043", func := "lamplighter/lamplighterlaw27.MarkGoes", spec := "markGoes", apart := false }
def MarkGoesSaid : Prop := markGoesRow.holds Try.pinned (OpenSpec.ofChange markGoesSpec)

/-- ITS FALSE NEIGHBOUR: 'it returns false'. Refute it at one input. -/
def markGoesWrong : ChangeSpec := { name := "markGoes", fn := fun _ => fun
  | [d1, d2] => { results := [.lit (.bool false)], args := [d1, d2] }
  | _ => none }
def MarkGoesWrongFalsely : Prop := markGoesRow.holds Try.pinned (OpenSpec.ofChange markGoesWrong)

/-- 'lamplighterlaw27.MarkLeast': WHATEVER THE INPUT: true; the input reads as it did. -/
def markLeastSpec : ChangeSpec := { name := "markLeast", fn := fun _ => fun
  | [d] => { results := [.lit (.bool true)], args := [d] }
  | _ => none }
def markLeastRow : OpenClaim := { program := "ytmkofjdmjilpiaa", sum := "05e8ef4e8553d656c1c870a6719601978eb30aa89ae2406b980f6b12492b0043", func := "lamplighter/lamplighterlaw27.MarkLeast", spec := "markLeast", apart := false }
def MarkLeastSaid : Prop := markLeastRow.holds Try.pinned (OpenSpec.ofChange markLeastSpec)

/-- ITS FALSE NEIGHBOUR: 'it returns false'. Refute it at one input. -/
def markLeastWrong : ChangeSpec := { name := "markLeast", fn := fun _ => fun
  | [d] => { results := [.lit (.bool false)], args := [d] }
  | _ => none }
def MarkLeastWrongFalsely : Prop := markLeastRow.holds Try.pinned (OpenSpec.ofChange markLeastWrong)

/-- 'lamplighterlaw35.TicketPlays': WHATEVER THE INPUT: true; the input reads as it did. -/
def ticketPlaysSpec : ChangeSpec := { name := "ticketPlays", fn := fun _ => fun
  | [d] => { results := [.lit (.bool true)], args := [d] }
  | _ => none }
def ticketPlaysRow : OpenClaim := { program := "ytmkofjdmjilpiaa", sum := "05e8ef4e8553d656c1c870a6719601978eb30aa89ae2406b980f6b12492b0043", func := "lamplighter/lamplighterlaw35.TicketPlays", spec := "ticketPlays", apart := false }
def TicketPlaysSaid : Prop := ticketPlaysRow.holds Try.pinned (OpenSpec.ofChange ticketPlaysSpec)

/-- ITS FALSE NEIGHBOUR: 'it returns false'. Refute it at one input. -/
def ticketPlaysWrong : ChangeSpec := { name := "ticketPlays", fn := fun _ => fun
  | [d] => { results := [.lit (.bool false)], args := [d] }
  | _ => none }
def TicketPlaysWrongFalsely : Prop := ticketPlaysRow.holds Try.pinned (OpenSpec.ofChange ticketPlaysWrong)

/-- 'lamplighterlaw35.TicketNone': WHATEVER THE INPUT: true; the input reads as it did. -/
def ticketNoneSpec : ChangeSpec := { name := "ticketNone", fn := fun _ => fun
  | [d] => { results := [.lit (.bool true)], args := [d] }
  | _ => none }
def ticketNoneRow : OpenClaim := { program := "ytmkofjdmjilpiaa", sum := "05e8ef4e8553d656c1c870a6719601978eb30aa89ae2406b980f6b12492b0043", func := "lamplighter/lamplighterlaw35.TicketNone", spec := "ticketNone", apart := false }
def TicketNoneSaid : Prop := ticketNoneRow.holds Try.pinned (OpenSpec.ofChange ticketNoneSpec)

/-- ITS FALSE NEIGHBOUR: 'it returns false'. Refute it at one input. -/
def ticketNoneWrong : ChangeSpec := { name := "ticketNone", fn := fun _ => fun
  | [d] => { results := [.lit (.bool false)], args := [d] }
  | _ => none }
def TicketNoneWrongFalsely : Prop := ticketNoneRow.holds Try.pinned (OpenSpec.ofChange ticketNoneWrong)

/-- 'lamplighterlaw37.CountPlays': WHATEVER THE INPUT: true; the input reads as it did. -/
def countPlaysSpec : ChangeSpec := { name := "countPlays", fn := fun _ => fun
  | [d1, d2] => { results := [.lit (.bool true)], args := [d1, d2] }
  | _ => none }
def countPlaysRow : OpenClaim := { program := "ytmkofjdmjilpiaa", sum := "05e8ef4e8553d656c1c870a6719601978eb30aa89ae2406b980f6b12492b0043", func := "lamplighter/lamplighterlaw37.CountPlays", spec := "countPlays", apart := false }
def CountPlaysSaid : Prop := countPlaysRow.holds Try.pinned (OpenSpec.ofChange countPlaysSpec)

/-- ITS FALSE NEIGHBOUR: 'it returns false'. Refute it at one input. -/
def countPlaysWrong : ChangeSpec := { name := "countPlays", fn := fun _ => fun
  | [d1, d2] => { results := [.lit (.bool false)], args := [d1, d2] }
  | _ => none }
def CountPlaysWrongFalsely : Prop := countPlaysRow.holds Try.pinned (OpenSpec.ofChange countPlaysWrong)

/-- 'lamplighterlaw37.CountReads': WHATEVER THE INPUT: true; the input reads as it did. -/
def countReadsSpec : ChangeSpec := { name := "countReads", fn := fun _ => fun
  | [d1, d2] => { results := [.lit (.bool true)], args := [d1, d2] }
  | _ => none }
def countReadsRow : OpenClaim := { program := "ytmkofjdmjilpiaa", sum := "05e8ef4e8553d656c1c870a6719601978eb30aa89ae2406b980f6b12492b0043", func := "lamplighter/lamplighterlaw37.CountReads", spec := "countReads", apart := false }
def CountReadsSaid : Prop := countReadsRow.holds Try.pinned (OpenSpec.ofChange countReadsSpec)

/-- ITS FALSE NEIGHBOUR: 'it returns false'. Refute it at one input. -/
def countReadsWrong : ChangeSpec := { name := "countReads", fn := fun _ => fun
  | [d1, d2] => { results := [.lit (.bool false)], args := [d1, d2] }
  | _ => none }
def CountReadsWrongFalsely : Prop := countReadsRow.holds Try.pinned (OpenSpec.ofChange countReadsWrong)

/-- 'lamplighterlaw37.CountSums': WHATEVER THE INPUT: true; the input reads as it did. -/
def countSumsSpec : ChangeSpec := { name := "countSums", fn := fun _ => fun
  | [d1, d2] => { results := [.lit (.bool true)], args := [d1, d2] }
  | _ => none }
def countSumsRow : OpenClaim := { program := "ytmkofjdmjilpiaa", sum := "05e8ef4e8553d656c1c870a6719601978eb30aa89ae2406b980f6b12492b0043", func := "lamplighter/lamplighterlaw37.CountSums", spec := "countSums", apart := false }
def CountSumsSaid : Prop := countSumsRow.holds Try.pinned (OpenSpec.ofChange countSumsSpec)

/-- ITS FALSE NEIGHBOUR: 'it returns false'. Refute it at one input. -/
def countSumsWrong : ChangeSpec := { name := "countSums", fn := fun _ => fun
  | [d1, d2] => { results := [.lit (.bool false)], args := [d1, d2] }
  | _ => none }
def CountSumsWrongFalsely : Prop := countSumsRow.holds Try.pinned (OpenSpec.ofChange countSumsWrong)

/-- 'lamplighterlaw36.AlignPlays': WHATEVER THE INPUT: true; the input reads as it did. -/
def alignPlaysSpec : ChangeSpec := { name := "alignPlays", fn := fun _ => fun
  | [d1, d2] => { results := [.lit (.bool true)], args := [d1, d2] }
  | _ => none }
def alignPlaysRow : OpenClaim := { program := "ytmkofjdmjilpiaa", sum := "05e8ef4e8553d656c1c870a6719601978eb30aa89ae2406b980f6b12492b0043", func := "lamplighter/lamplighterlaw36.AlignPlays", spec := "alignPlays", apart := false }
def AlignPlaysSaid : Prop := alignPlaysRow.holds Try.pinned (OpenSpec.ofChange alignPlaysSpec)

/-- ITS FALSE NEIGHBOUR: 'it returns false'. Refute it at one input. -/
def alignPlaysWrong : ChangeSpec := { name := "alignPlays", fn := fun _ => fun
  | [d1, d2] => { results := [.lit (.bool false)], args := [d1, d2] }
  | _ => none }
def AlignPlaysWrongFalsely : Prop := alignPlaysRow.holds Try.pinned (OpenSpec.ofChange alignPlaysWrong)

/-- 'lamplighterlaw36.AlignBehind': WHATEVER THE INPUT: true; the input reads as it did. -/
def alignBehindSpec : ChangeSpec := { name := "alignBehind", fn := fun _ => fun
  | [d1, d2, d3] => { results := [.lit (.bool true)], args := [d1, d2, d3] }
  | _ => none }
def alignBehindRow : OpenClaim := { program := "ytmkofjdmjilpiaa", sum := "05e8ef4e8553d656c1c870a6719601978eb30aa89ae2406b980f6b12492b0043", func := "lamplighter/lamplighterlaw36.AlignBehind", spec := "alignBehind", apart := false }
def AlignBehindSaid : Prop := alignBehindRow.holds Try.pinned (OpenSpec.ofChange alignBehindSpec)

/-- ITS FALSE NEIGHBOUR: 'it returns false'. Refute it at one input. -/
def alignBehindWrong : ChangeSpec := { name := "alignBehind", fn := fun _ => fun
  | [d1, d2, d3] => { results := [.lit (.bool false)], args := [d1, d2, d3] }
  | _ => none }
def AlignBehindWrongFalsely : Prop := alignBehindRow.holds Try.pinned (OpenSpec.ofChange alignBehindWrong)

/-- 'lamplighterlaw38.GateEnds': WHATEVER THE INPUT: true; the input reads as it did. -/
def gateEndsSpec : ChangeSpec := { name := "gateEnds", fn := fun _ => fun
  | [d1, d2] => { results := [.lit (.bool true)], args := [d1, d2] }
  | _ => none }
def gateEndsRow : OpenClaim := { program := "ytmkofjdmjilpiaa", sum := "05e8ef4e8553d656c1c870a6719601978eb30aa89ae2406b980f6b12492b0043", func := "lamplighter/lamplighterlaw38.GateEnds", spec := "gateEnds", apart := false }
def GateEndsSaid : Prop := gateEndsRow.holds Try.pinned (OpenSpec.ofChange gateEndsSpec)

/-- ITS FALSE NEIGHBOUR: 'it returns false'. Refute it at one input. -/
def gateEndsWrong : ChangeSpec := { name := "gateEnds", fn := fun _ => fun
  | [d1, d2] => { results := [.lit (.bool false)], args := [d1, d2] }
  | _ => none }
def GateEndsWrongFalsely : Prop := gateEndsRow.holds Try.pinned (OpenSpec.ofChange gateEndsWrong)

/- THE SECOND FORM. 'bulk': how many values and letters a reading holds, each counted each time it is reached (what is shared counts as often as it is met; a slice's spare places count too). A statement '..UptoSaid' is the law's where the arguments, and the package variables that the reading takes, are together of bulk at most 1048576: NARROWER than '..Said'. Prove '..Said' where nothing that the law and all that it calls make is longer than what came in: it says more and counts as full. Else prove '..UptoSaid'. A law counts once. -/
mutual
def uptoBulk {H : Type} : DataW H → Nat
  | .lit (.string bytes) => bytes.length + 1
  | .lit _ => 1
  | .nil => 1
  | .ptr d => uptoBulk d + 1
  | .slice elems spare => uptoBulkAll elems + uptoBulkAll spare + 1
  | .agg parts => uptoBulkAll parts + 1
  | .iface _ d => uptoBulk d + 1
  | .map entries => uptoBulkEntries entries + 1
  | .held _ => 1
def uptoBulkAll {H : Type} : List (DataW H) → Nat
  | [] => 0
  | d :: r => uptoBulk d + uptoBulkAll r
def uptoBulkEntries {H : Type} : List (Lit × DataW H) → Nat
  | [] => 0
  | x :: r => uptoBulkEntry x + uptoBulkEntries r
def uptoBulkEntry {H : Type} : Lit × DataW H → Nat
  | (.string bytes, d) => bytes.length + uptoBulk d + 1
  | (_, d) => uptoBulk d + 1
 end
def uptoSmall : (H : Type) → List (DataW H) → Bool := fun _ ds => decide (uptoBulkAll ds ≤ 1048576)
def OpenSpec.upto (s : _root_.Go.ChangeSpec) : _root_.Go.OpenSpec := { _root_.Go.OpenSpec.ofChange s with cond := some uptoSmall }

/-- 'lamplighterlaw39.HashSums', WHERE WHAT IT READS IS OF BULK AT MOST 1048576: true; the input reads as it did. -/
def hashSumsUptoRow : OpenClaim := { program := "ytmkofjdmjilpiaa", sum := "05e8ef4e8553d656c1c870a6719601978eb30aa89ae2406b980f6b12492b0043", func := "lamplighter/lamplighterlaw39.HashSums", spec := "hashSums", apart := false, narrowed := true }
def HashSumsUptoSaid : Prop := hashSumsUptoRow.holds Try.pinned (OpenSpec.upto hashSumsSpec)

/-- 'lamplighterlaw39.HashSpread', WHERE WHAT IT READS IS OF BULK AT MOST 1048576: true; the input reads as it did. -/
def hashSpreadUptoRow : OpenClaim := { program := "ytmkofjdmjilpiaa", sum := "05e8ef4e8553d656c1c870a6719601978eb30aa89ae2406b980f6b12492b0043", func := "lamplighter/lamplighterlaw39.HashSpread", spec := "hashSpread", apart := false, narrowed := true }
def HashSpreadUptoSaid : Prop := hashSpreadUptoRow.holds Try.pinned (OpenSpec.upto hashSpreadSpec)

/-- 'lamplighterlaw27.MarkGoes', WHERE WHAT IT READS IS OF BULK AT MOST 1048576: true; the input reads as it did. -/
def markGoesUptoRow : OpenClaim := { program := "ytmkofjdmjilpiaa", sum := "05e8ef4e8553d656c1c870a6719601978eb30aa89ae2406b980f6b12492b0043", func := "lamplighter/lamplighterlaw27.MarkGoes", spec := "markGoes", apart := false, narrowed := true }
def MarkGoesUptoSaid : Prop := markGoesUptoRow.holds Try.pinned (OpenSpec.upto markGoesSpec)

/-- 'lamplighterlaw27.MarkLeast', WHERE WHAT IT READS IS OF BULK AT MOST 1048576: true; the input reads as it did. -/
def markLeastUptoRow : OpenClaim := { program := "ytmkofjdmjilpiaa", sum := "05e8ef4e8553d656c1c870a6719601978eb30aa89ae2406b980f6b12492b0043", func := "lamplighter/lamplighterlaw27.MarkLeast", spec := "markLeast", apart := false, narrowed := true }
def MarkLeastUptoSaid : Prop := markLeastUptoRow.holds Try.pinned (OpenSpec.upto markLeastSpec)

/-- 'lamplighterlaw35.TicketPlays', WHERE WHAT IT READS IS OF BULK AT MOST 1048576: true; the input reads as it did. -/
def ticketPlaysUptoRow : OpenClaim := { program := "ytmkofjdmjilpiaa", sum := "05e8ef4e8553d656c1c870a6719601978eb30aa89ae2406b980f6b12492b0043", func := "lamplighter/lamplighterlaw35.TicketPlays", spec := "ticketPlays", apart := false, narrowed := true }
def TicketPlaysUptoSaid : Prop := ticketPlaysUptoRow.holds Try.pinned (OpenSpec.upto ticketPlaysSpec)

/-- 'lamplighterlaw35.TicketNone', WHERE WHAT IT READS IS OF BULK AT MOST 1048576: true; the input reads as it did. -/
def ticketNoneUptoRow : OpenClaim := { program := "ytmkofjdmjilpiaa", sum := "05e8ef4e8553d656c1c870a6719601978eb30aa89ae2406b980f6b12492b0043", func := "lamplighter/lamplighterlaw35.TicketNone", spec := "ticketNone", apart := false, narrowed := true }
def TicketNoneUptoSaid : Prop := ticketNoneUptoRow.holds Try.pinned (OpenSpec.upto ticketNoneSpec)

/-- 'lamplighterlaw37.CountPlays', WHERE WHAT IT READS IS OF BULK AT MOST 1048576: true; the input reads as it did. -/
def countPlaysUptoRow : OpenClaim := { program := "ytmkofjdmjilpiaa", sum := "05e8ef4e8553d656c1c870a6719601978eb30aa89ae2406b980f6b12492b0043", func := "lamplighter/lamplighterlaw37.CountPlays", spec := "countPlays", apart := false, narrowed := true }
def CountPlaysUptoSaid : Prop := countPlaysUptoRow.holds Try.pinned (OpenSpec.upto countPlaysSpec)

/-- 'lamplighterlaw37.CountReads', WHERE WHAT IT READS IS OF BULK AT MOST 1048576: true; the input reads as it did. -/
def countReadsUptoRow : OpenClaim := { program := "ytmkofjdmjilpiaa", sum := "05e8ef4e8553d656c1c870a6719601978eb30aa89ae2406b980f6b12492b0043", func := "lamplighter/lamplighterlaw37.CountReads", spec := "countReads", apart := false, narrowed := true }
def CountReadsUptoSaid : Prop := countReadsUptoRow.holds Try.pinned (OpenSpec.upto countReadsSpec)

/-- 'lamplighterlaw37.CountSums', WHERE WHAT IT READS IS OF BULK AT MOST 1048576: true; the input reads as it did. -/
def countSumsUptoRow : OpenClaim := { program := "ytmkofjdmjilpiaa", sum := "05e8ef4e8553d656c1c870a6719601978eb30aa89ae2406b980f6b12492b0043", func := "lamplighter/lamplighterlaw37.CountSums", spec := "countSums", apart := false, narrowed := true }
def CountSumsUptoSaid : Prop := countSumsUptoRow.holds Try.pinned (OpenSpec.upto countSumsSpec)

/-- 'lamplighterlaw36.AlignPlays', WHERE WHAT IT READS IS OF BULK AT MOST 1048576: true; the input reads as it did. -/
def alignPlaysUptoRow : OpenClaim := { program := "ytmkofjdmjilpiaa", sum := "05e8ef4e8553d656c1c870a6719601978eb30aa89ae2406b980f6b12492b0043", func := "lamplighter/lamplighterlaw36.AlignPlays", spec := "alignPlays", apart := false, narrowed := true }
def AlignPlaysUptoSaid : Prop := alignPlaysUptoRow.holds Try.pinned (OpenSpec.upto alignPlaysSpec)

/-- 'lamplighterlaw36.AlignBehind', WHERE WHAT IT READS IS OF BULK AT MOST 1048576: true; the input reads as it did. -/
def alignBehindUptoRow : OpenClaim := { program := "ytmkofjdmjilpiaa", sum := "05e8ef4e8553d656c1c870a6719601978eb30aa89ae2406b980f6b12492b0043", func := "lamplighter/lamplighterlaw36.AlignBehind", spec := "alignBehind", apart := false, narrowed := true }
def AlignBehindUptoSaid : Prop := alignBehindUptoRow.holds Try.pinned (OpenSpec.upto alignBehindSpec)

/-- 'lamplighterlaw38.GateEnds', WHERE WHAT IT READS IS OF BULK AT MOST 1048576: true; the input reads as it did. -/
def gateEndsUptoRow : OpenClaim := { program := "ytmkofjdmjilpiaa", sum := "05e8ef4e8553d656c1c870a6719601978eb30aa89ae2406b980f6b12492b0043", func := "lamplighter/lamplighterlaw38.GateEnds", spec := "gateEnds", apart := false, narrowed := true }
def GateEndsUptoSaid : Prop := gateEndsUptoRow.holds Try.pinned (OpenSpec.upto gateEndsSpec)

end Rows
end Go.Proofs.Ytmkofjdmjilpiaa
