/-
  No cell of these rows narrows 'for every input' (looked for: loops, veiled, ifaces, maps, wideKeys, modest, calm, conditions, laid).
  DERIVED. THE GIVEN ROWS OF THIS SEAT. 5 by the template 'for every input the law returns true; each argument reads behind the call as it read before'; 0 by the template 'total and deterministic' (their statements: YtkklceblojcbkaaTotals.lean).
  GIVEN WITH THE SEED: the statements are not yours to turn. If you find one false, say at which input.
  Laid BY PROGRAM, IN A SANDBOX (cutbox-rows.mjs): the forced cells as the released guide's own fill.sh prints them over the translation cb4a89302d6ff3d2… (all of the seat's roots in one cut). By AI agents, Wed Nov 11 2026. No macro, syntax, notation, axiom, sorry.
-/
import Derived.Test.YtkklceblojcbkaaChecked
import GoSem.Claim
import GoSem.ClaimJoined
import GoSem.ClaimMapViews
import Derived.JoinedTies
import Derived.KernelRfl
namespace Go.Proofs.Ytkklceblojcbkaa
/- THE CELL 'sum', in the pinned program and in every row, IS THE sha256 OF THE DUMP (.gsa) THAT YtkklceblojcbkaaProg.lean LOADS. Nothing in Lean hashes anything: it is a label: what it is worth is what the hold of that sum in a sandbox is worth. -/
noncomputable def Try.pinned : Pinned := { name := "ytkklceblojcbkaa", sum := "cb4a89302d6ff3d2546111f2de2652469c63e6479553be813a50cac105360b4b", checked := Try.checked }
namespace Rows
def none {H : Type} : Left H := { results := [], args := [] }

/-- 'lamplighterlaw08.SeqsParts': WHATEVER THE INPUT: true; the input reads as it did. -/
def seqsPartsSpec : ChangeSpec := { name := "seqsParts", fn := fun _ => fun
  | [d1, d2, d3] => { results := [.lit (.bool true)], args := [d1, d2, d3] }
  | _ => none }
def seqsPartsRow : OpenClaim := { program := "ytkklceblojcbkaa", sum := "cb4a89302d6ff3d2546111f2de2652469c63e6479553be813a50cac105360b4b", func := "lamplighter/lamplighterlaw08.SeqsParts", spec := "seqsParts", unfollowed := true, recurses := true, apart := false }
def SeqsPartsSaid : Prop := seqsPartsRow.holds Try.pinned (OpenSpec.ofChange seqsPartsSpec)

/-- ITS FALSE NEIGHBOUR: 'it returns false'. Refute it at one input. -/
def seqsPartsWrong : ChangeSpec := { name := "seqsParts", fn := fun _ => fun
  | [d1, d2, d3] => { results := [.lit (.bool false)], args := [d1, d2, d3] }
  | _ => none }
def SeqsPartsWrongFalsely : Prop := seqsPartsRow.holds Try.pinned (OpenSpec.ofChange seqsPartsWrong)

/-- 'lamplighterlaw08.SeqsLists': WHATEVER THE INPUT: true; the input reads as it did. -/
def seqsListsSpec : ChangeSpec := { name := "seqsLists", fn := fun _ => fun
  | [d1, d2] => { results := [.lit (.bool true)], args := [d1, d2] }
  | _ => none }
def seqsListsRow : OpenClaim := { program := "ytkklceblojcbkaa", sum := "cb4a89302d6ff3d2546111f2de2652469c63e6479553be813a50cac105360b4b", func := "lamplighter/lamplighterlaw08.SeqsLists", spec := "seqsLists", unfollowed := true, recurses := true, apart := false }
def SeqsListsSaid : Prop := seqsListsRow.holds Try.pinned (OpenSpec.ofChange seqsListsSpec)

/-- ITS FALSE NEIGHBOUR: 'it returns false'. Refute it at one input. -/
def seqsListsWrong : ChangeSpec := { name := "seqsLists", fn := fun _ => fun
  | [d1, d2] => { results := [.lit (.bool false)], args := [d1, d2] }
  | _ => none }
def SeqsListsWrongFalsely : Prop := seqsListsRow.holds Try.pinned (OpenSpec.ofChange seqsListsWrong)

/-- 'lamplighterlaw08.SeqsNil': WHATEVER THE INPUT: true; the input reads as it did. -/
def seqsNilSpec : ChangeSpec := { name := "seqsNil", fn := fun _ => fun
  | [d] => { results := [.lit (.bool true)], args := [d] }
  | _ => none }
def seqsNilRow : OpenClaim := { program := "ytkklceblojcbkaa", sum := "cb4a89302d6ff3d2546111f2de2652469c63e6479553be813a50cac105360b4b", func := "lamplighter/lamplighterlaw08.SeqsNil", spec := "seqsNil", unfollowed := true, recurses := true, apart := false }
def SeqsNilSaid : Prop := seqsNilRow.holds Try.pinned (OpenSpec.ofChange seqsNilSpec)

/-- ITS FALSE NEIGHBOUR: 'it returns false'. Refute it at one input. -/
def seqsNilWrong : ChangeSpec := { name := "seqsNil", fn := fun _ => fun
  | [d] => { results := [.lit (.bool false)], args := [d] }
  | _ => none }
def SeqsNilWrongFalsely : Prop := seqsNilRow.holds Try.pinned (OpenSpec.ofChange seqsNilWrong)

/-- 'lamplighterlaw08.SeqsMerge': WHATEVER THE INPUT: true; the input reads as it did. -/
def seqsMergeSpec : ChangeSpec := { name := "seqsMerge", fn := fun _ => fun
  | [d1, d2, d3] => { results := [.lit (.bool true)], args := [d1, d2, d3] }
  | _ => none }
def seqsMergeRow : OpenClaim := { program := "ytkklceblojcbkaa", sum := "cb4a89302d6ff3d2546111f2de2652469c63e6479553be813a50cac105360b4b", func := "lamplighter/lamplighterlaw08.SeqsMerge", spec := "seqsMerge", unfollowed := true, recurses := true, apart := false }
def SeqsMergeSaid : Prop := seqsMergeRow.holds Try.pinned (OpenSpec.ofChange seqsMergeSpec)

/-- ITS FALSE NEIGHBOUR: 'it returns false'. Refute it at one input. -/
def seqsMergeWrong : ChangeSpec := { name := "seqsMerge", fn := fun _ => fun
  | [d1, d2, d3] => { results := [.lit (.bool false)], args := [d1, d2, d3] }
  | _ => none }
def SeqsMergeWrongFalsely : Prop := seqsMergeRow.holds Try.pinned (OpenSpec.ofChange seqsMergeWrong)

/-- 'lamplighterlaw08.SeqsEarly': WHATEVER THE INPUT: true; the input reads as it did. -/
def seqsEarlySpec : ChangeSpec := { name := "seqsEarly", fn := fun _ => fun
  | [d1, d2, d3] => { results := [.lit (.bool true)], args := [d1, d2, d3] }
  | _ => none }
def seqsEarlyRow : OpenClaim := { program := "ytkklceblojcbkaa", sum := "cb4a89302d6ff3d2546111f2de2652469c63e6479553be813a50cac105360b4b", func := "lamplighter/lamplighterlaw08.SeqsEarly", spec := "seqsEarly", unfollowed := true, recurses := true, apart := false }
def SeqsEarlySaid : Prop := seqsEarlyRow.holds Try.pinned (OpenSpec.ofChange seqsEarlySpec)

/-- ITS FALSE NEIGHBOUR: 'it returns false'. Refute it at one input. -/
def seqsEarlyWrong : ChangeSpec := { name := "seqsEarly", fn := fun _ => fun
  | [d1, d2, d3] => { results := [.lit (.bool false)], args := [d1, d2, d3] }
  | _ => none }
def SeqsEarlyWrongFalsely : Prop := seqsEarlyRow.holds Try.pinned (OpenSpec.ofChange seqsEarlyWrong)

/- THE SECOND FORM. 'bulk': how many values and letters a reading holds, each counted each time it is reached (what is shared counts as often as it is met; a slice's spare places count too). A statement '..UptoSaid' is the law's where the arguments, and the package variables that the reading takes, are together of bulk at most 1048576: NARROWER than '..Said'. Prove '..Said' where nothing that the law and all that it calls make is longer than what came in: it says more and counts as full. Else prove '..UptoSaid'. A law counts once. -/
mutual
def uptoBulk {H : Type} : DataW H → Nat
  | .lit (.string bytes) => bytes.length + 1
  | .lit _ => 1
  | .nil => 1
  | .ptr d => uptoBulk d + 1
  | .slice elems spare => uptoBulkAll elems + uptoBulkAll spare + 1
  | .agg parts => uptoBulkAll parts + 1
  | .iface _ d => uptoBulk d + 1
  | .map entries => uptoBulkEntries entries + 1
  | .held _ => 1
def uptoBulkAll {H : Type} : List (DataW H) → Nat
  | [] => 0
  | d :: r => uptoBulk d + uptoBulkAll r
def uptoBulkEntries {H : Type} : List (Lit × DataW H) → Nat
  | [] => 0
  | x :: r => uptoBulkEntry x + uptoBulkEntries r
def uptoBulkEntry {H : Type} : Lit × DataW H → Nat
  | (.string bytes, d) => bytes.length + uptoBulk d + 1
  | (_, d) => uptoBulk d + 1
 end
def uptoSmall : (H : Type) → List (DataW H) → Bool := fun _ ds => decide (uptoBulkAll ds ≤ 1048576)
def OpenSpec.upto (s : _root_.Go.ChangeSpec) : _root_.Go.OpenSpec := { _root_.Go.OpenSpec.ofChange s with cond := some uptoSmall }

/-- 'lamplighterlaw08.SeqsParts', WHERE WHAT IT READS IS OF BULK AT MOST 1048576: true; the input reads as it did. -/
def seqsPartsUptoRow : OpenClaim := { program := "ytkklceblojcbkaa", sum := "cb4a89302d6ff3d2546111f2de2652469c63e6479553be813a50cac105360b4b", func := "lamplighter/lamplighterlaw08.SeqsParts", spec := "seqsParts", unfollowed := true, recurses := true, apart := false, narrowed := true }
def SeqsPartsUptoSaid : Prop := seqsPartsUptoRow.holds Try.pinned (OpenSpec.upto seqsPartsSpec)

/-- 'lamplighterlaw08.SeqsLists', WHERE WHAT IT READS IS OF BULK AT MOST 1048576: true; the input reads as it did. -/
def seqsListsUptoRow : OpenClaim := { program := "ytkklceblojcbkaa", sum := "cb4a89302d6ff3d2546111f2de2652469c63e6479553be813a50cac105360b4b", func := "lamplighter/lamplighterlaw08.SeqsLists", spec := "seqsLists", unfollowed := true, recurses := true, apart := false, narrowed := true }
def SeqsListsUptoSaid : Prop := seqsListsUptoRow.holds Try.pinned (OpenSpec.upto seqsListsSpec)

/-- 'lamplighterlaw08.SeqsNil', WHERE WHAT IT READS IS OF BULK AT MOST 1048576: true; the input reads as it did. -/
def seqsNilUptoRow : OpenClaim := { program := "ytkklceblojcbkaa", sum := "cb4a89302d6ff3d2546111f2de2652469c63e6479553be813a50cac105360b4b", func := "lamplighter/lamplighterlaw08.SeqsNil", spec := "seqsNil", unfollowed := true, recurses := true, apart := false, narrowed := true }
def SeqsNilUptoSaid : Prop := seqsNilUptoRow.holds Try.pinned (OpenSpec.upto seqsNilSpec)

/-- 'lamplighterlaw08.SeqsMerge', WHERE WHAT IT READS IS OF BULK AT MOST 1048576: true; the input reads as it did. -/
def seqsMergeUptoRow : OpenClaim := { program := "ytkklceblojcbkaa", sum := "cb4a89302d6ff3d2546111f2de2652469c63e6479553be813a50cac105360b4b", func := "lamplighter/lamplighterlaw08.SeqsMerge", spec := "seqsMerge", unfollowed := true, recurses := true, apart := false, narrowed := true }
def SeqsMergeUptoSaid : Prop := seqsMergeUptoRow.holds Try.pinned (OpenSpec.upto seqsMergeSpec)

/-- 'lamplighterlaw08.SeqsEarly', WHERE WHAT IT READS IS OF BULK AT MOST 1048576: true; the input reads as it did. -/
def seqsEarlyUptoRow : OpenClaim := { program := "ytkklceblojcbkaa", sum := "cb4a89302d6ff3d2546111f2de2652469c63e6479553be813a50cac105360b4b", func := "lamplighter/lamplighterlaw08.SeqsEarly", spec := "seqsEarly", unfollowed := true, recurses := true, apart := false, narrowed := true }
def SeqsEarlyUptoSaid : Prop := seqsEarlyUptoRow.holds Try.pinned (OpenSpec.upto seqsEarlySpec)

end Rows
end Go.Proofs.Ytkklceblojcbkaa
