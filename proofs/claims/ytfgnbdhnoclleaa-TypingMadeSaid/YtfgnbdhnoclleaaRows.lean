/-
  No cell of these rows narrows 'for every input' (looked for: loops, veiled, ifaces, maps, wideKeys, modest, calm, conditions, laid).
  DERIVED. THE GIVEN ROWS OF THIS SEAT. 12 by the template 'for every input the law returns true; each argument reads behind the call as it read before'; 0 by the template 'total and deterministic' (their statements: YtfgnbdhnoclleaaTotals.lean).
  GIVEN WITH THE SEED: the statements are not yours to turn. If you find one false, say at which input.
  Laid BY PROGRAM, IN A SANDBOX (cutbox-rows.mjs): the forced cells as the released guide's own fill.sh prints them over the translation 73edd1bb6807a636… (all of the seat's roots in one cut). By AI agents, Wed Nov 11 2026. No macro, syntax, notation, axiom, sorry.
-/
import Derived.Test.YtfgnbdhnoclleaaChecked
import GoSem.Claim
import GoSem.ClaimJoined
import GoSem.ClaimMapViews
import Derived.JoinedTies
import Derived.KernelRfl
namespace Go.Proofs.Ytfgnbdhnoclleaa
/- THE CELL 'sum', in the pinned program and in every row, IS THE sha256 OF THE DUMP (.gsa) THAT YtfgnbdhnoclleaaProg.lean LOADS. Nothing in Lean hashes anything: it is a label: what it is worth is what the hold of that sum in a sandbox is worth. -/
noncomputable def Try.pinned : Pinned := { name := "ytfgnbdhnoclleaa", sum := "73edd1bb6807a636b7fe94a84c845601194d05549bf2d4b7e8acb62d922416e2", checked := Try.checked }
namespace Rows
def none {H : Type} : Left H := { results := [], args := [] }

/-- 'lamplighterlaw05.HeapPlays': WHATEVER THE INPUT: true; the input reads as it did. -/
def heapPlaysSpec : ChangeSpec := { name := "heapPlays", fn := fun _ => fun
  | [d] => { results := [.lit (.bool true)], args := [d] }
  | _ => none }
def heapPlaysRow : OpenClaim := { program := "ytfgnbdhnoclleaa", sum := "73edd1bb6807a636b7fe94a84c845601194d05549bf2d4b7e8acb62d922416e2", func := "lamplighter/lamplighterlaw05.HeapPlays", spec := "heapPlays", unfollowed := true, recurses := true, plainKeys := false, apart := false }
def HeapPlaysSaid : Prop := heapPlaysRow.holds Try.pinned (OpenSpec.ofChange heapPlaysSpec)

/-- ITS FALSE NEIGHBOUR: 'it returns false'. Refute it at one input. -/
def heapPlaysWrong : ChangeSpec := { name := "heapPlays", fn := fun _ => fun
  | [d] => { results := [.lit (.bool false)], args := [d] }
  | _ => none }
def HeapPlaysWrongFalsely : Prop := heapPlaysRow.holds Try.pinned (OpenSpec.ofChange heapPlaysWrong)

/-- 'lamplighterlaw05.HeapDrains': WHATEVER THE INPUT: true; the input reads as it did. -/
def heapDrainsSpec : ChangeSpec := { name := "heapDrains", fn := fun _ => fun
  | [d1, d2] => { results := [.lit (.bool true)], args := [d1, d2] }
  | _ => none }
def heapDrainsRow : OpenClaim := { program := "ytfgnbdhnoclleaa", sum := "73edd1bb6807a636b7fe94a84c845601194d05549bf2d4b7e8acb62d922416e2", func := "lamplighter/lamplighterlaw05.HeapDrains", spec := "heapDrains", unfollowed := true, recurses := true, plainKeys := false, apart := false }
def HeapDrainsSaid : Prop := heapDrainsRow.holds Try.pinned (OpenSpec.ofChange heapDrainsSpec)

/-- ITS FALSE NEIGHBOUR: 'it returns false'. Refute it at one input. -/
def heapDrainsWrong : ChangeSpec := { name := "heapDrains", fn := fun _ => fun
  | [d1, d2] => { results := [.lit (.bool false)], args := [d1, d2] }
  | _ => none }
def HeapDrainsWrongFalsely : Prop := heapDrainsRow.holds Try.pinned (OpenSpec.ofChange heapDrainsWrong)

/-- 'lamplighterlaw13.TypingMade': WHATEVER THE INPUT: true; the input reads as it did. -/
def typingMadeSpec : ChangeSpec := { name := "typingMade", fn := fun _ => fun
  | [d1, d2] => { results := [.lit (.bool true)], args := [d1, d2] }
  | _ => none }
def typingMadeRow : OpenClaim := { program := "ytfgnbdhnoclleaa", sum := "73edd1bb6807a636b7fe94a84c845601194d05549bf2d4b7e8acb62d922416e2", func := "lamplighter/lamplighterlaw13.TypingMade", spec := "typingMade", unfollowed := true, recurses := true, plainKeys := false, apart := false }
def TypingMadeSaid : Prop := typingMadeRow.holds Try.pinned (OpenSpec.ofChange typingMadeSpec)

/-- ITS FALSE NEIGHBOUR: 'it returns false'. Refute it at one input. -/
def typingMadeWrong : ChangeSpec := { name := "typingMade", fn := fun _ => fun
  | [d1, d2] => { results := [.lit (.bool false)], args := [d1, d2] }
  | _ => none }
def TypingMadeWrongFalsely : Prop := typingMadeRow.holds Try.pinned (OpenSpec.ofChange typingMadeWrong)

/-- 'lamplighterlaw13.TypingFields': WHATEVER THE INPUT: true; the input reads as it did. -/
def typingFieldsSpec : ChangeSpec := { name := "typingFields", fn := fun _ => fun
  | [d] => { results := [.lit (.bool true)], args := [d] }
  | _ => none }
def typingFieldsRow : OpenClaim := { program := "ytfgnbdhnoclleaa", sum := "73edd1bb6807a636b7fe94a84c845601194d05549bf2d4b7e8acb62d922416e2", func := "lamplighter/lamplighterlaw13.TypingFields", spec := "typingFields", unfollowed := true, recurses := true, plainKeys := false, apart := false }
def TypingFieldsSaid : Prop := typingFieldsRow.holds Try.pinned (OpenSpec.ofChange typingFieldsSpec)

/-- ITS FALSE NEIGHBOUR: 'it returns false'. Refute it at one input. -/
def typingFieldsWrong : ChangeSpec := { name := "typingFields", fn := fun _ => fun
  | [d] => { results := [.lit (.bool false)], args := [d] }
  | _ => none }
def TypingFieldsWrongFalsely : Prop := typingFieldsRow.holds Try.pinned (OpenSpec.ofChange typingFieldsWrong)

/-- 'lamplighterlaw47.HistOrder': WHATEVER THE INPUT: true; the input reads as it did. -/
def histOrderSpec : ChangeSpec := { name := "histOrder", fn := fun _ => fun
  | [d1, d2] => { results := [.lit (.bool true)], args := [d1, d2] }
  | _ => none }
def histOrderRow : OpenClaim := { program := "ytfgnbdhnoclleaa", sum := "73edd1bb6807a636b7fe94a84c845601194d05549bf2d4b7e8acb62d922416e2", func := "lamplighter/lamplighterlaw47.HistOrder", spec := "histOrder", unfollowed := true, recurses := true, plainKeys := false, apart := false }
def HistOrderSaid : Prop := histOrderRow.holds Try.pinned (OpenSpec.ofChange histOrderSpec)

/-- ITS FALSE NEIGHBOUR: 'it returns false'. Refute it at one input. -/
def histOrderWrong : ChangeSpec := { name := "histOrder", fn := fun _ => fun
  | [d1, d2] => { results := [.lit (.bool false)], args := [d1, d2] }
  | _ => none }
def HistOrderWrongFalsely : Prop := histOrderRow.holds Try.pinned (OpenSpec.ofChange histOrderWrong)

/-- 'lamplighterlaw16.PatScope': WHATEVER THE INPUT: true; the input reads as it did. -/
def patScopeSpec : ChangeSpec := { name := "patScope", fn := fun _ => fun
  | [d1, d2] => { results := [.lit (.bool true)], args := [d1, d2] }
  | _ => none }
def patScopeRow : OpenClaim := { program := "ytfgnbdhnoclleaa", sum := "73edd1bb6807a636b7fe94a84c845601194d05549bf2d4b7e8acb62d922416e2", func := "lamplighter/lamplighterlaw16.PatScope", spec := "patScope", unfollowed := true, recurses := true, plainKeys := false, apart := false }
def PatScopeSaid : Prop := patScopeRow.holds Try.pinned (OpenSpec.ofChange patScopeSpec)

/-- ITS FALSE NEIGHBOUR: 'it returns false'. Refute it at one input. -/
def patScopeWrong : ChangeSpec := { name := "patScope", fn := fun _ => fun
  | [d1, d2] => { results := [.lit (.bool false)], args := [d1, d2] }
  | _ => none }
def PatScopeWrongFalsely : Prop := patScopeRow.holds Try.pinned (OpenSpec.ofChange patScopeWrong)

/-- 'lamplighterlaw22.RunOver': WHATEVER THE INPUT: true; the input reads as it did. -/
def runOverSpec : ChangeSpec := { name := "runOver", fn := fun _ => fun
  | [d1, d2, d3] => { results := [.lit (.bool true)], args := [d1, d2, d3] }
  | _ => none }
def runOverRow : OpenClaim := { program := "ytfgnbdhnoclleaa", sum := "73edd1bb6807a636b7fe94a84c845601194d05549bf2d4b7e8acb62d922416e2", func := "lamplighter/lamplighterlaw22.RunOver", spec := "runOver", unfollowed := true, recurses := true, plainKeys := false, apart := false }
def RunOverSaid : Prop := runOverRow.holds Try.pinned (OpenSpec.ofChange runOverSpec)

/-- ITS FALSE NEIGHBOUR: 'it returns false'. Refute it at one input. -/
def runOverWrong : ChangeSpec := { name := "runOver", fn := fun _ => fun
  | [d1, d2, d3] => { results := [.lit (.bool false)], args := [d1, d2, d3] }
  | _ => none }
def RunOverWrongFalsely : Prop := runOverRow.holds Try.pinned (OpenSpec.ofChange runOverWrong)

/-- 'lamplighterlaw22.RunAgain': WHATEVER THE INPUT: true; the input reads as it did. -/
def runAgainSpec : ChangeSpec := { name := "runAgain", fn := fun _ => fun
  | [d1, d2, d3] => { results := [.lit (.bool true)], args := [d1, d2, d3] }
  | _ => none }
def runAgainRow : OpenClaim := { program := "ytfgnbdhnoclleaa", sum := "73edd1bb6807a636b7fe94a84c845601194d05549bf2d4b7e8acb62d922416e2", func := "lamplighter/lamplighterlaw22.RunAgain", spec := "runAgain", unfollowed := true, recurses := true, plainKeys := false, apart := false }
def RunAgainSaid : Prop := runAgainRow.holds Try.pinned (OpenSpec.ofChange runAgainSpec)

/-- ITS FALSE NEIGHBOUR: 'it returns false'. Refute it at one input. -/
def runAgainWrong : ChangeSpec := { name := "runAgain", fn := fun _ => fun
  | [d1, d2, d3] => { results := [.lit (.bool false)], args := [d1, d2, d3] }
  | _ => none }
def RunAgainWrongFalsely : Prop := runAgainRow.holds Try.pinned (OpenSpec.ofChange runAgainWrong)

/-- 'lamplighterlaw14.EvalParts': WHATEVER THE INPUT: true; the input reads as it did. -/
def evalPartsSpec : ChangeSpec := { name := "evalParts", fn := fun _ => fun
  | [d1, d2, d3] => { results := [.lit (.bool true)], args := [d1, d2, d3] }
  | _ => none }
def evalPartsRow : OpenClaim := { program := "ytfgnbdhnoclleaa", sum := "73edd1bb6807a636b7fe94a84c845601194d05549bf2d4b7e8acb62d922416e2", func := "lamplighter/lamplighterlaw14.EvalParts", spec := "evalParts", unfollowed := true, recurses := true, plainKeys := false, apart := false }
def EvalPartsSaid : Prop := evalPartsRow.holds Try.pinned (OpenSpec.ofChange evalPartsSpec)

/-- ITS FALSE NEIGHBOUR: 'it returns false'. Refute it at one input. -/
def evalPartsWrong : ChangeSpec := { name := "evalParts", fn := fun _ => fun
  | [d1, d2, d3] => { results := [.lit (.bool false)], args := [d1, d2, d3] }
  | _ => none }
def EvalPartsWrongFalsely : Prop := evalPartsRow.holds Try.pinned (OpenSpec.ofChange evalPartsWrong)

/-- 'lamplighterlaw14.EvalNone': WHATEVER THE INPUT: true; the input reads as it did. -/
def evalNoneSpec : ChangeSpec := { name := "evalNone", fn := fun _ => fun
  | [d1, d2] => { results := [.lit (.bool true)], args := [d1, d2] }
  | _ => none }
def evalNoneRow : OpenClaim := { program := "ytfgnbdhnoclleaa", sum := "73edd1bb6807a636b7fe94a84c845601194d05549bf2d4b7e8acb62d922416e2", func := "lamplighter/lamplighterlaw14.EvalNone", spec := "evalNone", unfollowed := true, recurses := true, plainKeys := false, apart := false }
def EvalNoneSaid : Prop := evalNoneRow.holds Try.pinned (OpenSpec.ofChange evalNoneSpec)

/-- ITS FALSE NEIGHBOUR: 'it returns false'. Refute it at one input. -/
def evalNoneWrong : ChangeSpec := { name := "evalNone", fn := fun _ => fun
  | [d1, d2] => { results := [.lit (.bool false)], args := [d1, d2] }
  | _ => none }
def EvalNoneWrongFalsely : Prop := evalNoneRow.holds Try.pinned (OpenSpec.ofChange evalNoneWrong)

/-- 'lamplighterlaw26.ReorderNone': WHATEVER THE INPUT: true; the input reads as it did. -/
def reorderNoneSpec : ChangeSpec := { name := "reorderNone", fn := fun _ => fun
  | [d] => { results := [.lit (.bool true)], args := [d] }
  | _ => none }
def reorderNoneRow : OpenClaim := { program := "ytfgnbdhnoclleaa", sum := "73edd1bb6807a636b7fe94a84c845601194d05549bf2d4b7e8acb62d922416e2", func := "lamplighter/lamplighterlaw26.ReorderNone", spec := "reorderNone", unfollowed := true, recurses := true, plainKeys := false, apart := false }
def ReorderNoneSaid : Prop := reorderNoneRow.holds Try.pinned (OpenSpec.ofChange reorderNoneSpec)

/-- ITS FALSE NEIGHBOUR: 'it returns false'. Refute it at one input. -/
def reorderNoneWrong : ChangeSpec := { name := "reorderNone", fn := fun _ => fun
  | [d] => { results := [.lit (.bool false)], args := [d] }
  | _ => none }
def ReorderNoneWrongFalsely : Prop := reorderNoneRow.holds Try.pinned (OpenSpec.ofChange reorderNoneWrong)

/-- 'lamplighterlaw08.SeqsNil': WHATEVER THE INPUT: true; the input reads as it did. -/
def seqsNilSpec : ChangeSpec := { name := "seqsNil", fn := fun _ => fun
  | [d] => { results := [.lit (.bool true)], args := [d] }
  | _ => none }
def seqsNilRow : OpenClaim := { program := "ytfgnbdhnoclleaa", sum := "73edd1bb6807a636b7fe94a84c845601194d05549bf2d4b7e8acb62d922416e2", func := "lamplighter/lamplighterlaw08.SeqsNil", spec := "seqsNil", unfollowed := true, recurses := true, plainKeys := false, apart := false }
def SeqsNilSaid : Prop := seqsNilRow.holds Try.pinned (OpenSpec.ofChange seqsNilSpec)

/-- ITS FALSE NEIGHBOUR: 'it returns false'. Refute it at one input. -/
def seqsNilWrong : ChangeSpec := { name := "seqsNil", fn := fun _ => fun
  | [d] => { results := [.lit (.bool false)], args := [d] }
  | _ => none }
def SeqsNilWrongFalsely : Prop := seqsNilRow.holds Try.pinned (OpenSpec.ofChange seqsNilWrong)

/- THE SECOND FORM. 'bulk': how many values and letters a reading holds, each counted each time it is reached (what is shared counts as often as it is met; a slice's spare places count too). A statement '..UptoSaid' is the law's where the arguments, and the package variables that the reading takes, are together of bulk at most 1048576: NARROWER than '..Said'. Prove '..Said' where nothing that the law and all that it calls make is longer than what came in: it says more and counts as full. Else prove '..UptoSaid'. A law counts once. -/
mutual
def uptoBulk {H : Type} : DataW H → Nat
  | .lit (.string bytes) => bytes.length + 1
  | .lit _ => 1
  | .nil => 1
  | .ptr d => uptoBulk d + 1
  | .slice elems spare => uptoBulkAll elems + uptoBulkAll spare + 1
  | .agg parts => uptoBulkAll parts + 1
  | .iface _ d => uptoBulk d + 1
  | .map entries => uptoBulkEntries entries + 1
  | .held _ => 1
def uptoBulkAll {H : Type} : List (DataW H) → Nat
  | [] => 0
  | d :: r => uptoBulk d + uptoBulkAll r
def uptoBulkEntries {H : Type} : List (Lit × DataW H) → Nat
  | [] => 0
  | x :: r => uptoBulkEntry x + uptoBulkEntries r
def uptoBulkEntry {H : Type} : Lit × DataW H → Nat
  | (.string bytes, d) => bytes.length + uptoBulk d + 1
  | (_, d) => uptoBulk d + 1
 end
def uptoSmall : (H : Type) → List (DataW H) → Bool := fun _ ds => decide (uptoBulkAll ds ≤ 1048576)
def OpenSpec.upto (s : _root_.Go.ChangeSpec) : _root_.Go.OpenSpec := { _root_.Go.OpenSpec.ofChange s with cond := some uptoSmall }

/-- 'lamplighterlaw05.HeapPlays', WHERE WHAT IT READS IS OF BULK AT MOST 1048576: true; the input reads as it did. -/
def heapPlaysUptoRow : OpenClaim := { program := "ytfgnbdhnoclleaa", sum := "73edd1bb6807a636b7fe94a84c845601194d05549bf2d4b7e8acb62d922416e2", func := "lamplighter/lamplighterlaw05.HeapPlays", spec := "heapPlays", unfollowed := true, recurses := true, plainKeys := false, apart := false, narrowed := true }
def HeapPlaysUptoSaid : Prop := heapPlaysUptoRow.holds Try.pinned (OpenSpec.upto heapPlaysSpec)

/-- 'lamplighterlaw05.HeapDrains', WHERE WHAT IT READS IS OF BULK AT MOST 1048576: true; the input reads as it did. -/
def heapDrainsUptoRow : OpenClaim := { program := "ytfgnbdhnoclleaa", sum := "73edd1bb6807a636b7fe94a84c845601194d05549bf2d4b7e8acb62d922416e2", func := "lamplighter/lamplighterlaw05.HeapDrains", spec := "heapDrains", unfollowed := true, recurses := true, plainKeys := false, apart := false, narrowed := true }
def HeapDrainsUptoSaid : Prop := heapDrainsUptoRow.holds Try.pinned (OpenSpec.upto heapDrainsSpec)

/-- 'lamplighterlaw13.TypingMade', WHERE WHAT IT READS IS OF BULK AT MOST 1048576: true; the input reads as it did. -/
def typingMadeUptoRow : OpenClaim := { program := "ytfgnbdhnoclleaa", sum := "73edd1bb6807a636b7fe94a84c845601194d05549bf2d4b7e8acb62d922416e2", func := "lamplighter/lamplighterlaw13.TypingMade", spec := "typingMade", unfollowed := true, recurses := true, plainKeys := false, apart := false, narrowed := true }
def TypingMadeUptoSaid : Prop := typingMadeUptoRow.holds Try.pinned (OpenSpec.upto typingMadeSpec)

/-- 'lamplighterlaw13.TypingFields', WHERE WHAT IT READS IS OF BULK AT MOST 1048576: true; the input reads as it did. -/
def typingFieldsUptoRow : OpenClaim := { program := "ytfgnbdhnoclleaa", sum := "73edd1bb6807a636b7fe94a84c845601194d05549bf2d4b7e8acb62d922416e2", func := "lamplighter/lamplighterlaw13.TypingFields", spec := "typingFields", unfollowed := true, recurses := true, plainKeys := false, apart := false, narrowed := true }
def TypingFieldsUptoSaid : Prop := typingFieldsUptoRow.holds Try.pinned (OpenSpec.upto typingFieldsSpec)

/-- 'lamplighterlaw47.HistOrder', WHERE WHAT IT READS IS OF BULK AT MOST 1048576: true; the input reads as it did. -/
def histOrderUptoRow : OpenClaim := { program := "ytfgnbdhnoclleaa", sum := "73edd1bb6807a636b7fe94a84c845601194d05549bf2d4b7e8acb62d922416e2", func := "lamplighter/lamplighterlaw47.HistOrder", spec := "histOrder", unfollowed := true, recurses := true, plainKeys := false, apart := false, narrowed := true }
def HistOrderUptoSaid : Prop := histOrderUptoRow.holds Try.pinned (OpenSpec.upto histOrderSpec)

/-- 'lamplighterlaw16.PatScope', WHERE WHAT IT READS IS OF BULK AT MOST 1048576: true; the input reads as it did. -/
def patScopeUptoRow : OpenClaim := { program := "ytfgnbdhnoclleaa", sum := "73edd1bb6807a636b7fe94a84c845601194d05549bf2d4b7e8acb62d922416e2", func := "lamplighter/lamplighterlaw16.PatScope", spec := "patScope", unfollowed := true, recurses := true, plainKeys := false, apart := false, narrowed := true }
def PatScopeUptoSaid : Prop := patScopeUptoRow.holds Try.pinned (OpenSpec.upto patScopeSpec)

/-- 'lamplighterlaw22.RunOver', WHERE WHAT IT READS IS OF BULK AT MOST 1048576: true; the input reads as it did. -/
def runOverUptoRow : OpenClaim := { program := "ytfgnbdhnoclleaa", sum := "73edd1bb6807a636b7fe94a84c845601194d05549bf2d4b7e8acb62d922416e2", func := "lamplighter/lamplighterlaw22.RunOver", spec := "runOver", unfollowed := true, recurses := true, plainKeys := false, apart := false, narrowed := true }
def RunOverUptoSaid : Prop := runOverUptoRow.holds Try.pinned (OpenSpec.upto runOverSpec)

/-- 'lamplighterlaw22.RunAgain', WHERE WHAT IT READS IS OF BULK AT MOST 1048576: true; the input reads as it did. -/
def runAgainUptoRow : OpenClaim := { program := "ytfgnbdhnoclleaa", sum := "73edd1bb6807a636b7fe94a84c845601194d05549bf2d4b7e8acb62d922416e2", func := "lamplighter/lamplighterlaw22.RunAgain", spec := "runAgain", unfollowed := true, recurses := true, plainKeys := false, apart := false, narrowed := true }
def RunAgainUptoSaid : Prop := runAgainUptoRow.holds Try.pinned (OpenSpec.upto runAgainSpec)

/-- 'lamplighterlaw14.EvalParts', WHERE WHAT IT READS IS OF BULK AT MOST 1048576: true; the input reads as it did. -/
def evalPartsUptoRow : OpenClaim := { program := "ytfgnbdhnoclleaa", sum := "73edd1bb6807a636b7fe94a84c845601194d05549bf2d4b7e8acb62d922416e2", func := "lamplighter/lamplighterlaw14.EvalParts", spec := "evalParts", unfollowed := true, recurses := true, plainKeys := false, apart := false, narrowed := true }
def EvalPartsUptoSaid : Prop := evalPartsUptoRow.holds Try.pinned (OpenSpec.upto evalPartsSpec)

/-- 'lamplighterlaw14.EvalNone', WHERE WHAT IT READS IS OF BULK AT MOST 1048576: true; the input reads as it did. -/
def evalNoneUptoRow : OpenClaim := { program := "ytfgnbdhnoclleaa", sum := "73edd1bb6807a636b7fe94a84c845601194d05549bf2d4b7e8acb62d922416e2", func := "lamplighter/lamplighterlaw14.EvalNone", spec := "evalNone", unfollowed := true, recurses := true, plainKeys := false, apart := false, narrowed := true }
def EvalNoneUptoSaid : Prop := evalNoneUptoRow.holds Try.pinned (OpenSpec.upto evalNoneSpec)

/-- 'lamplighterlaw26.ReorderNone', WHERE WHAT IT READS IS OF BULK AT MOST 1048576: true; the input reads as it did. -/
def reorderNoneUptoRow : OpenClaim := { program := "ytfgnbdhnoclleaa", sum := "73edd1bb6807a636b7fe94a84c845601194d05549bf2d4b7e8acb62d922416e2", func := "lamplighter/lamplighterlaw26.ReorderNone", spec := "reorderNone", unfollowed := true, recurses := true, plainKeys := false, apart := false, narrowed := true }
def ReorderNoneUptoSaid : Prop := reorderNoneUptoRow.holds Try.pinned (OpenSpec.upto reorderNoneSpec)

/-- 'lamplighterlaw08.SeqsNil', WHERE WHAT IT READS IS OF BULK AT MOST 1048576: true; the input reads as it did. -/
def seqsNilUptoRow : OpenClaim := { program := "ytfgnbdhnoclleaa", sum := "73edd1bb6807a636b7fe94a84c845601194d05549bf2d4b7e8acb62d922416e2", func := "lamplighter/lamplighterlaw08.SeqsNil", spec := "seqsNil", unfollowed := true, recurses := true, plainKeys := false, apart := false, narrowed := true }
def SeqsNilUptoSaid : Prop := seqsNilUptoRow.holds Try.pinned (OpenSpec.upto seqsNilSpec)

end Rows
end Go.Proofs.Ytfgnbdhnoclleaa
