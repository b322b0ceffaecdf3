/-
  No cell of these rows narrows 'for every input' (looked for: loops, veiled, ifaces, maps, wideKeys, modest, calm, conditions, laid).
  DERIVED. THE GIVEN ROWS OF THIS SEAT. 12 by the template 'for every input the law returns true; each argument reads behind the call as it read before'; 0 by the template 'total and deterministic' (their statements: YtpgacadnmekdhaaTotals.lean).
  GIVEN WITH THE SEED: the statements are not yours to turn. If you find one false, say at which input.
  Laid BY PROGRAM, IN A SANDBOX (cutbox-rows.mjs): the forced cells as the released guide's own fill.sh prints them over the translation 99789b3d0d780da4… (all of the seat's roots in one cut). By AI agents, Wed Nov 11 2026. No macro, syntax, notation, axiom, sorry.
-/
import Derived.Test.YtpgacadnmekdhaaChecked
import GoSem.Claim
import GoSem.ClaimJoined
import GoSem.ClaimMapViews
import Derived.JoinedTies
import Derived.KernelRfl
namespace Go.Proofs.Ytpgacadnmekdhaa
/- THE CELL 'sum', in the pinned program and in every row, IS THE sha256 OF THE DUMP (.gsa) THAT YtpgacadnmekdhaaProg.lean LOADS. Nothing in Lean hashes anything: it is a label: what it is worth is what the hold of that sum in a sandbox is worth. -/
noncomputable def Try.pinned : Pinned := { name := "ytpgacadnmekdhaa", sum := "99789b3d0d780da43cdb6b06abc659bf10ba06a8ff8003b48cc04d8e1aaf88bf", checked := Try.checked }
namespace Rows
def none {H : Type} : Left H := { results := [], args := [] }

/-- 'lamplighterlaw07.PersTells': WHATEVER THE INPUT: true; the input reads as it did. -/
def persTellsSpec : ChangeSpec := { name := "persTells", fn := fun _ => fun
  | [d1, d2] => { results := [.lit (.bool true)], args := [d1, d2] }
  | _ => none }
def persTellsRow : OpenClaim := { program := "ytpgacadnmekdhaa", sum := "99789b3d0d780da43cdb6b06abc659bf10ba06a8ff8003b48cc04d8e1aaf88bf", func := "lamplighter/lamplighterlaw07.PersTells", spec := "persTells", unfollowed := true, recurses := true, plainKeys := false, apart := false }
def PersTellsSaid : Prop := persTellsRow.holds Try.pinned (OpenSpec.ofChange persTellsSpec)

/-- ITS FALSE NEIGHBOUR: 'it returns false'. Refute it at one input. -/
def persTellsWrong : ChangeSpec := { name := "persTells", fn := fun _ => fun
  | [d1, d2] => { results := [.lit (.bool false)], args := [d1, d2] }
  | _ => none }
def PersTellsWrongFalsely : Prop := persTellsRow.holds Try.pinned (OpenSpec.ofChange persTellsWrong)

/-- 'lamplighterlaw47.HistTickets': WHATEVER THE INPUT: true; the input reads as it did. -/
def histTicketsSpec : ChangeSpec := { name := "histTickets", fn := fun _ => fun
  | [d] => { results := [.lit (.bool true)], args := [d] }
  | _ => none }
def histTicketsRow : OpenClaim := { program := "ytpgacadnmekdhaa", sum := "99789b3d0d780da43cdb6b06abc659bf10ba06a8ff8003b48cc04d8e1aaf88bf", func := "lamplighter/lamplighterlaw47.HistTickets", spec := "histTickets", plainKeys := false, apart := false }
def HistTicketsSaid : Prop := histTicketsRow.holds Try.pinned (OpenSpec.ofChange histTicketsSpec)

/-- ITS FALSE NEIGHBOUR: 'it returns false'. Refute it at one input. -/
def histTicketsWrong : ChangeSpec := { name := "histTickets", fn := fun _ => fun
  | [d] => { results := [.lit (.bool false)], args := [d] }
  | _ => none }
def HistTicketsWrongFalsely : Prop := histTicketsRow.holds Try.pinned (OpenSpec.ofChange histTicketsWrong)

/-- 'lamplighterlaw47.HistSpans': WHATEVER THE INPUT: true; the input reads as it did. -/
def histSpansSpec : ChangeSpec := { name := "histSpans", fn := fun _ => fun
  | [d1, d2] => { results := [.lit (.bool true)], args := [d1, d2] }
  | _ => none }
def histSpansRow : OpenClaim := { program := "ytpgacadnmekdhaa", sum := "99789b3d0d780da43cdb6b06abc659bf10ba06a8ff8003b48cc04d8e1aaf88bf", func := "lamplighter/lamplighterlaw47.HistSpans", spec := "histSpans", plainKeys := false, apart := false }
def HistSpansSaid : Prop := histSpansRow.holds Try.pinned (OpenSpec.ofChange histSpansSpec)

/-- ITS FALSE NEIGHBOUR: 'it returns false'. Refute it at one input. -/
def histSpansWrong : ChangeSpec := { name := "histSpans", fn := fun _ => fun
  | [d1, d2] => { results := [.lit (.bool false)], args := [d1, d2] }
  | _ => none }
def HistSpansWrongFalsely : Prop := histSpansRow.holds Try.pinned (OpenSpec.ofChange histSpansWrong)

/-- 'lamplighterlaw47.HistOrder': WHATEVER THE INPUT: true; the input reads as it did. -/
def histOrderSpec : ChangeSpec := { name := "histOrder", fn := fun _ => fun
  | [d1, d2] => { results := [.lit (.bool true)], args := [d1, d2] }
  | _ => none }
def histOrderRow : OpenClaim := { program := "ytpgacadnmekdhaa", sum := "99789b3d0d780da43cdb6b06abc659bf10ba06a8ff8003b48cc04d8e1aaf88bf", func := "lamplighter/lamplighterlaw47.HistOrder", spec := "histOrder", unfollowed := true, recurses := true, plainKeys := false, apart := false }
def HistOrderSaid : Prop := histOrderRow.holds Try.pinned (OpenSpec.ofChange histOrderSpec)

/-- ITS FALSE NEIGHBOUR: 'it returns false'. Refute it at one input. -/
def histOrderWrong : ChangeSpec := { name := "histOrder", fn := fun _ => fun
  | [d1, d2] => { results := [.lit (.bool false)], args := [d1, d2] }
  | _ => none }
def HistOrderWrongFalsely : Prop := histOrderRow.holds Try.pinned (OpenSpec.ofChange histOrderWrong)

/-- 'lamplighterlaw53.CodecNumbers': WHATEVER THE INPUT: true; the input reads as it did. -/
def codecNumbersSpec : ChangeSpec := { name := "codecNumbers", fn := fun _ => fun
  | [d1, d2] => { results := [.lit (.bool true)], args := [d1, d2] }
  | _ => none }
def codecNumbersRow : OpenClaim := { program := "ytpgacadnmekdhaa", sum := "99789b3d0d780da43cdb6b06abc659bf10ba06a8ff8003b48cc04d8e1aaf88bf", func := "lamplighter/lamplighterlaw53.CodecNumbers", spec := "codecNumbers", recurses := true, plainKeys := false, apart := false }
def CodecNumbersSaid : Prop := codecNumbersRow.holds Try.pinned (OpenSpec.ofChange codecNumbersSpec)

/-- ITS FALSE NEIGHBOUR: 'it returns false'. Refute it at one input. -/
def codecNumbersWrong : ChangeSpec := { name := "codecNumbers", fn := fun _ => fun
  | [d1, d2] => { results := [.lit (.bool false)], args := [d1, d2] }
  | _ => none }
def CodecNumbersWrongFalsely : Prop := codecNumbersRow.holds Try.pinned (OpenSpec.ofChange codecNumbersWrong)

/-- 'lamplighterlaw40.MsgSame': WHATEVER THE INPUT: true; the input reads as it did. -/
def msgSameSpec : ChangeSpec := { name := "msgSame", fn := fun _ => fun
  | [d1, d2] => { results := [.lit (.bool true)], args := [d1, d2] }
  | _ => none }
def msgSameRow : OpenClaim := { program := "ytpgacadnmekdhaa", sum := "99789b3d0d780da43cdb6b06abc659bf10ba06a8ff8003b48cc04d8e1aaf88bf", func := "lamplighter/lamplighterlaw40.MsgSame", spec := "msgSame", unfollowed := true, recurses := true, plainKeys := false, apart := false }
def MsgSameSaid : Prop := msgSameRow.holds Try.pinned (OpenSpec.ofChange msgSameSpec)

/-- ITS FALSE NEIGHBOUR: 'it returns false'. Refute it at one input. -/
def msgSameWrong : ChangeSpec := { name := "msgSame", fn := fun _ => fun
  | [d1, d2] => { results := [.lit (.bool false)], args := [d1, d2] }
  | _ => none }
def MsgSameWrongFalsely : Prop := msgSameRow.holds Try.pinned (OpenSpec.ofChange msgSameWrong)

/-- 'lamplighterlaw40.MsgGoes': WHATEVER THE INPUT: true; the input reads as it did. -/
def msgGoesSpec : ChangeSpec := { name := "msgGoes", fn := fun _ => fun
  | [d1, d2] => { results := [.lit (.bool true)], args := [d1, d2] }
  | _ => none }
def msgGoesRow : OpenClaim := { program := "ytpgacadnmekdhaa", sum := "99789b3d0d780da43cdb6b06abc659bf10ba06a8ff8003b48cc04d8e1aaf88bf", func := "lamplighter/lamplighterlaw40.MsgGoes", spec := "msgGoes", unfollowed := true, recurses := true, plainKeys := false, apart := false }
def MsgGoesSaid : Prop := msgGoesRow.holds Try.pinned (OpenSpec.ofChange msgGoesSpec)

/-- ITS FALSE NEIGHBOUR: 'it returns false'. Refute it at one input. -/
def msgGoesWrong : ChangeSpec := { name := "msgGoes", fn := fun _ => fun
  | [d1, d2] => { results := [.lit (.bool false)], args := [d1, d2] }
  | _ => none }
def MsgGoesWrongFalsely : Prop := msgGoesRow.holds Try.pinned (OpenSpec.ofChange msgGoesWrong)

/-- 'lamplighterlaw05.HeapPlays': WHATEVER THE INPUT: true; the input reads as it did. -/
def heapPlaysSpec : ChangeSpec := { name := "heapPlays", fn := fun _ => fun
  | [d] => { results := [.lit (.bool true)], args := [d] }
  | _ => none }
def heapPlaysRow : OpenClaim := { program := "ytpgacadnmekdhaa", sum := "99789b3d0d780da43cdb6b06abc659bf10ba06a8ff8003b48cc04d8e1aaf88bf", func := "lamplighter/lamplighterlaw05.HeapPlays", spec := "heapPlays", unfollowed := true, recurses := true, plainKeys := false, apart := false }
def HeapPlaysSaid : Prop := heapPlaysRow.holds Try.pinned (OpenSpec.ofChange heapPlaysSpec)

/-- ITS FALSE NEIGHBOUR: 'it returns false'. Refute it at one input. -/
def heapPlaysWrong : ChangeSpec := { name := "heapPlays", fn := fun _ => fun
  | [d] => { results := [.lit (.bool false)], args := [d] }
  | _ => none }
def HeapPlaysWrongFalsely : Prop := heapPlaysRow.holds Try.pinned (OpenSpec.ofChange heapPlaysWrong)

/-- 'lamplighterlaw05.HeapDrains': WHATEVER THE INPUT: true; the input reads as it did. -/
def heapDrainsSpec : ChangeSpec := { name := "heapDrains", fn := fun _ => fun
  | [d1, d2] => { results := [.lit (.bool true)], args := [d1, d2] }
  | _ => none }
def heapDrainsRow : OpenClaim := { program := "ytpgacadnmekdhaa", sum := "99789b3d0d780da43cdb6b06abc659bf10ba06a8ff8003b48cc04d8e1aaf88bf", func := "lamplighter/lamplighterlaw05.HeapDrains", spec := "heapDrains", unfollowed := true, recurses := true, plainKeys := false, apart := false }
def HeapDrainsSaid : Prop := heapDrainsRow.holds Try.pinned (OpenSpec.ofChange heapDrainsSpec)

/-- ITS FALSE NEIGHBOUR: 'it returns false'. Refute it at one input. -/
def heapDrainsWrong : ChangeSpec := { name := "heapDrains", fn := fun _ => fun
  | [d1, d2] => { results := [.lit (.bool false)], args := [d1, d2] }
  | _ => none }
def HeapDrainsWrongFalsely : Prop := heapDrainsRow.holds Try.pinned (OpenSpec.ofChange heapDrainsWrong)

/-- 'lamplighterlaw03.SchemaFinds': WHATEVER THE INPUT: true; the input reads as it did. -/
def schemaFindsSpec : ChangeSpec := { name := "schemaFinds", fn := fun _ => fun
  | [d1, d2] => { results := [.lit (.bool true)], args := [d1, d2] }
  | _ => none }
def schemaFindsRow : OpenClaim := { program := "ytpgacadnmekdhaa", sum := "99789b3d0d780da43cdb6b06abc659bf10ba06a8ff8003b48cc04d8e1aaf88bf", func := "lamplighter/lamplighterlaw03.SchemaFinds", spec := "schemaFinds", unfollowed := true, recurses := true, plainKeys := false, apart := false }
def SchemaFindsSaid : Prop := schemaFindsRow.holds Try.pinned (OpenSpec.ofChange schemaFindsSpec)

/-- ITS FALSE NEIGHBOUR: 'it returns false'. Refute it at one input. -/
def schemaFindsWrong : ChangeSpec := { name := "schemaFinds", fn := fun _ => fun
  | [d1, d2] => { results := [.lit (.bool false)], args := [d1, d2] }
  | _ => none }
def SchemaFindsWrongFalsely : Prop := schemaFindsRow.holds Try.pinned (OpenSpec.ofChange schemaFindsWrong)

/-- 'lamplighterlaw16.PatScope': WHATEVER THE INPUT: true; the input reads as it did. -/
def patScopeSpec : ChangeSpec := { name := "patScope", fn := fun _ => fun
  | [d1, d2] => { results := [.lit (.bool true)], args := [d1, d2] }
  | _ => none }
def patScopeRow : OpenClaim := { program := "ytpgacadnmekdhaa", sum := "99789b3d0d780da43cdb6b06abc659bf10ba06a8ff8003b48cc04d8e1aaf88bf", func := "lamplighter/lamplighterlaw16.PatScope", spec := "patScope", unfollowed := true, recurses := true, plainKeys := false, apart := false }
def PatScopeSaid : Prop := patScopeRow.holds Try.pinned (OpenSpec.ofChange patScopeSpec)

/-- ITS FALSE NEIGHBOUR: 'it returns false'. Refute it at one input. -/
def patScopeWrong : ChangeSpec := { name := "patScope", fn := fun _ => fun
  | [d1, d2] => { results := [.lit (.bool false)], args := [d1, d2] }
  | _ => none }
def PatScopeWrongFalsely : Prop := patScopeRow.holds Try.pinned (OpenSpec.ofChange patScopeWrong)

/-- 'lamplighterlaw22.RunOver': WHATEVER THE INPUT: true; the input reads as it did. -/
def runOverSpec : ChangeSpec := { name := "runOver", fn := fun _ => fun
  | [d1, d2, d3] => { results := [.lit (.bool true)], args := [d1, d2, d3] }
  | _ => none }
def runOverRow : OpenClaim := { program := "ytpgacadnmekdhaa", sum := "99789b3d0d780da43cdb6b06abc659bf10ba06a8ff8003b48cc04d8e1aaf88bf", func := "lamplighter/lamplighterlaw22.RunOver", spec := "runOver", unfollowed := true, recurses := true, plainKeys := false, apart := false }
def RunOverSaid : Prop := runOverRow.holds Try.pinned (OpenSpec.ofChange runOverSpec)

/-- ITS FALSE NEIGHBOUR: 'it returns false'. Refute it at one input. -/
def runOverWrong : ChangeSpec := { name := "runOver", fn := fun _ => fun
  | [d1, d2, d3] => { results := [.lit (.bool false)], args := [d1, d2, d3] }
  | _ => none }
def RunOverWrongFalsely : Prop := runOverRow.holds Try.pinned (OpenSpec.ofChange runOverWrong)

/- THE SECOND FORM. 'bulk': how many values and letters a reading holds, each counted each time it is reached (what is shared counts as often as it is met; a slice's spare places count too). A statement '..UptoSaid' is the law's where the arguments, and the package variables that the reading takes, are together of bulk at most 1048576: NARROWER than '..Said'. Prove '..Said' where nothing that the law and all that it calls make is longer than what came in: it says more and counts as full. Else prove '..UptoSaid'. A law counts once. -/
mutual
def uptoBulk {H : Type} : DataW H → Nat
  | .lit (.string bytes) => bytes.length + 1
  | .lit _ => 1
  | .nil => 1
  | .ptr d => uptoBulk d + 1
  | .slice elems spare => uptoBulkAll elems + uptoBulkAll spare + 1
  | .agg parts => uptoBulkAll parts + 1
  | .iface _ d => uptoBulk d + 1
  | .map entries => uptoBulkEntries entries + 1
  | .held _ => 1
def uptoBulkAll {H : Type} : List (DataW H) → Nat
  | [] => 0
  | d :: r => uptoBulk d + uptoBulkAll r
def uptoBulkEntries {H : Type} : List (Lit × DataW H) → Nat
  | [] => 0
  | x :: r => uptoBulkEntry x + uptoBulkEntries r
def uptoBulkEntry {H : Type} : Lit × DataW H → Nat
  | (.string bytes, d) => bytes.length + uptoBulk d + 1
  | (_, d) => uptoBulk d + 1
 end
def uptoSmall : (H : Type) → List (DataW H) → Bool := fun _ ds => decide (uptoBulkAll ds ≤ 1048576)
def OpenSpec.upto (s : _root_.Go.ChangeSpec) : _root_.Go.OpenSpec := { _root_.Go.OpenSpec.ofChange s with cond := some uptoSmall }

/-- 'lamplighterlaw07.PersTells', WHERE WHAT IT READS IS OF BULK AT MOST 1048576: true; the input reads as it did. -/
def persTellsUptoRow : OpenClaim := { program := "ytpgacadnmekdhaa", sum := "99789b3d0d780da43cdb6b06abc659bf10ba06a8ff8003b48cc04d8e1aaf88bf", func := "lamplighter/lamplighterlaw07.PersTells", spec := "persTells", unfollowed := true, recurses := true, plainKeys := false, apart := false, narrowed := true }
def PersTellsUptoSaid : Prop := persTellsUptoRow.holds Try.pinned (OpenSpec.upto persTellsSpec)

/-- 'lamplighterlaw47.HistTickets', WHERE WHAT IT READS IS OF BULK AT MOST 1048576: true; the input reads as it did. -/
def histTicketsUptoRow : OpenClaim := { program := "ytpgacadnmekdhaa", sum := "99789b3d0d780da43cdb6b06abc659bf10ba06a8ff8003b48cc04d8e1aaf88bf", func := "lamplighter/lamplighterlaw47.HistTickets", spec := "histTickets", plainKeys := false, apart := false, narrowed := true }
def HistTicketsUptoSaid : Prop := histTicketsUptoRow.holds Try.pinned (OpenSpec.upto histTicketsSpec)

/-- 'lamplighterlaw47.HistSpans', WHERE WHAT IT READS IS OF BULK AT MOST 1048576: true; the input reads as it did. -/
def histSpansUptoRow : OpenClaim := { program := "ytpgacadnmekdhaa", sum := "99789b3d0d780da43cdb6b06abc659bf10ba06a8ff8003b48cc04d8e1aaf88bf", func := "lamplighter/lamplighterlaw47.HistSpans", spec := "histSpans", plainKeys := false, apart := false, narrowed := true }
def HistSpansUptoSaid : Prop := histSpansUptoRow.holds Try.pinned (OpenSpec.upto histSpansSpec)

/-- 'lamplighterlaw47.HistOrder', WHERE WHAT IT READS IS OF BULK AT MOST 1048576: true; the input reads as it did. -/
def histOrderUptoRow : OpenClaim := { program := "ytpgacadnmekdhaa", sum := "99789b3d0d780da43cdb6b06abc659bf10ba06a8ff8003b48cc04d8e1aaf88bf", func := "lamplighter/lamplighterlaw47.HistOrder", spec := "histOrder", unfollowed := true, recurses := true, plainKeys := false, apart := false, narrowed := true }
def HistOrderUptoSaid : Prop := histOrderUptoRow.holds Try.pinned (OpenSpec.upto histOrderSpec)

/-- 'lamplighterlaw53.CodecNumbers', WHERE WHAT IT READS IS OF BULK AT MOST 1048576: true; the input reads as it did. -/
def codecNumbersUptoRow : OpenClaim := { program := "ytpgacadnmekdhaa", sum := "99789b3d0d780da43cdb6b06abc659bf10ba06a8ff8003b48cc04d8e1aaf88bf", func := "lamplighter/lamplighterlaw53.CodecNumbers", spec := "codecNumbers", recurses := true, plainKeys := false, apart := false, narrowed := true }
def CodecNumbersUptoSaid : Prop := codecNumbersUptoRow.holds Try.pinned (OpenSpec.upto codecNumbersSpec)

/-- 'lamplighterlaw40.MsgSame', WHERE WHAT IT READS IS OF BULK AT MOST 1048576: true; the input reads as it did. -/
def msgSameUptoRow : OpenClaim := { program := "ytpgacadnmekdhaa", sum := "99789b3d0d780da43cdb6b06abc659bf10ba06a8ff8003b48cc04d8e1aaf88bf", func := "lamplighter/lamplighterlaw40.MsgSame", spec := "msgSame", unfollowed := true, recurses := true, plainKeys := false, apart := false, narrowed := true }
def MsgSameUptoSaid : Prop := msgSameUptoRow.holds Try.pinned (OpenSpec.upto msgSameSpec)

/-- 'lamplighterlaw40.MsgGoes', WHERE WHAT IT READS IS OF BULK AT MOST 1048576: true; the input reads as it did. -/
def msgGoesUptoRow : OpenClaim := { program := "ytpgacadnmekdhaa", sum := "99789b3d0d780da43cdb6b06abc659bf10ba06a8ff8003b48cc04d8e1aaf88bf", func := "lamplighter/lamplighterlaw40.MsgGoes", spec := "msgGoes", unfollowed := true, recurses := true, plainKeys := false, apart := false, narrowed := true }
def MsgGoesUptoSaid : Prop := msgGoesUptoRow.holds Try.pinned (OpenSpec.upto msgGoesSpec)

/-- 'lamplighterlaw05.HeapPlays', WHERE WHAT IT READS IS OF BULK AT MOST 1048576: true; the input reads as it did. -/
def heapPlaysUptoRow : OpenClaim := { program := "ytpgacadnmekdhaa", sum := "99789b3d0d780da43cdb6b06abc659bf10ba06a8ff8003b48cc04d8e1aaf88bf", func := "lamplighter/lamplighterlaw05.HeapPlays", spec := "heapPlays", unfollowed := true, recurses := true, plainKeys := false, apart := false, narrowed := true }
def HeapPlaysUptoSaid : Prop := heapPlaysUptoRow.holds Try.pinned (OpenSpec.upto heapPlaysSpec)

/-- 'lamplighterlaw05.HeapDrains', WHERE WHAT IT READS IS OF BULK AT MOST 1048576: true; the input reads as it did. -/
def heapDrainsUptoRow : OpenClaim := { program := "ytpgacadnmekdhaa", sum := "99789b3d0d780da43cdb6b06abc659bf10ba06a8ff8003b48cc04d8e1aaf88bf", func := "lamplighter/lamplighterlaw05.HeapDrains", spec := "heapDrains", unfollowed := true, recurses := true, plainKeys := false, apart := false, narrowed := true }
def HeapDrainsUptoSaid : Prop := heapDrainsUptoRow.holds Try.pinned (OpenSpec.upto heapDrainsSpec)

/-- 'lamplighterlaw03.SchemaFinds', WHERE WHAT IT READS IS OF BULK AT MOST 1048576: true; the input reads as it did. -/
def schemaFindsUptoRow : OpenClaim := { program := "ytpgacadnmekdhaa", sum := "99789b3d0d780da43cdb6b06abc659bf10ba06a8ff8003b48cc04d8e1aaf88bf", func := "lamplighter/lamplighterlaw03.SchemaFinds", spec := "schemaFinds", unfollowed := true, recurses := true, plainKeys := false, apart := false, narrowed := true }
def SchemaFindsUptoSaid : Prop := schemaFindsUptoRow.holds Try.pinned (OpenSpec.upto schemaFindsSpec)

/-- 'lamplighterlaw16.PatScope', WHERE WHAT IT READS IS OF BULK AT MOST 1048576: true; the input reads as it did. -/
def patScopeUptoRow : OpenClaim := { program := "ytpgacadnmekdhaa", sum := "99789b3d0d780da43cdb6b06abc659bf10ba06a8ff8003b48cc04d8e1aaf88bf", func := "lamplighter/lamplighterlaw16.PatScope", spec := "patScope", unfollowed := true, recurses := true, plainKeys := false, apart := false, narrowed := true }
def PatScopeUptoSaid : Prop := patScopeUptoRow.holds Try.pinned (OpenSpec.upto patScopeSpec)

/-- 'lamplighterlaw22.RunOver', WHERE WHAT IT READS IS OF BULK AT MOST 1048576: true; the input reads as it did. -/
def runOverUptoRow : OpenClaim := { program := "ytpgacadnmekdhaa", sum := "99789b3d0d780da43cdb6b06abc659bf10ba06a8ff8003b48cc04d8e1aaf88bf", func := "lamplighter/lamplighterlaw22.RunOver", spec := "runOver", unfollowed := true, recurses := true, plainKeys := false, apart := false, narrowed := true }
def RunOverUptoSaid : Prop := runOverUptoRow.holds Try.pinned (OpenSpec.upto runOverSpec)

end Rows
end Go.Proofs.Ytpgacadnmekdhaa
