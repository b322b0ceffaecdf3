/-
  No cell of these rows narrows 'for every input' (looked for: loops, veiled, ifaces, maps, wideKeys, modest, calm, conditions, laid).
  DERIVED. THE GIVEN ROWS OF THIS SEAT. 12 by the template 'for every input the law returns true; each argument reads behind the call as it read before'; 0 by the template 'total and deterministic' (their statements: YtjciilnbcmaikaaTotals.lean).
  GIVEN WITH THE SEED: the statements are not yours to turn. If you find one false, say at which input.
  Laid BY PROGRAM, IN A SANDBOX (cutbox-rows.mjs): the forced cells as the released guide's own fill.sh prints them over the translation e7a5830ed3d5bd29… (all of the seat's roots in one cut). By AI agents, Wed Nov 11 2026. No macro, syntax, notation, axiom, sorry.
-/
import Derived.Test.YtjciilnbcmaikaaChecked
import GoSem.Claim
import GoSem.ClaimJoined
import GoSem.ClaimMapViews
import Derived.JoinedTies
import Derived.KernelRfl
namespace Go.Proofs.Ytjciilnbcmaikaa
/- THE CELL 'sum', in the pinned program and in every row, IS THE sha256 OF THE DUMP (.gsa) THAT YtjciilnbcmaikaaProg.lean LOADS. Nothing in Lean hashes anything: it is a label: what it is worth is what the hold of that sum in a sandbox is worth. -/
noncomputable def Try.pinned : Pinned := { name := "ytjciilnbcmaikaa", sum := "e7a5830ed3d5bd295293608d3b949626e5f10ad62ea61e62924cd4404879081a", checked := Try.checked }
namespace Rows
def none {H : Type} : Left H := { results := [], args := [] }

/-- 'lamplighterlaw37.CountPlays': WHATEVER THE INPUT: true; the input reads as it did. -/
def countPlaysSpec : ChangeSpec := { name := "countPlays", fn := fun _ => fun
  | [d1, d2] => { results := [.lit (.bool true)], args := [d1, d2] }
  | _ => none }
def countPlaysRow : OpenClaim := { program := "ytjciilnbcmaikaa", sum := "e7a5830ed3d5bd295293608d3b949626e5f10ad62ea61e62924cd4404879081a", func := "lamplighter/lamplighterlaw37.CountPlays", spec := "countPlays", apart := false }
def CountPlaysSaid : Prop := countPlaysRow.holds Try.pinned (OpenSpec.ofChange countPlaysSpec)

/-- ITS FALSE NEIGHBOUR: 'it returns false'. Refute it at one input. -/
def countPlaysWrong : ChangeSpec := { name := "countPlays", fn := fun _ => fun
  | [d1, d2] => { results := [.lit (.bool false)], args := [d1, d2] }
  | _ => none }
def CountPlaysWrongFalsely : Prop := countPlaysRow.holds Try.pinned (OpenSpec.ofChange countPlaysWrong)

/-- 'lamplighterlaw37.CountReads': WHATEVER THE INPUT: true; the input reads as it did. -/
def countReadsSpec : ChangeSpec := { name := "countReads", fn := fun _ => fun
  | [d1, d2] => { results := [.lit (.bool true)], args := [d1, d2] }
  | _ => none }
def countReadsRow : OpenClaim := { program := "ytjciilnbcmaikaa", sum := "e7a5830ed3d5bd295293608d3b949626e5f10ad62ea61e62924cd4404879081a", func := "lamplighter/lamplighterlaw37.CountReads", spec := "countReads", apart := false }
def CountReadsSaid : Prop := countReadsRow.holds Try.pinned (OpenSpec.ofChange countReadsSpec)

/-- ITS FALSE NEIGHBOUR: 'it returns false'. Refute it at one input. -/
def countReadsWrong : ChangeSpec := { name := "countReads", fn := fun _ => fun
  | [d1, d2] => { results := [.lit (.bool false)], args := [d1, d2] }
  | _ => none }
def CountReadsWrongFalsely : Prop := countReadsRow.holds Try.pinned (OpenSpec.ofChange countReadsWrong)

/-- 'lamplighterlaw37.CountSums': WHATEVER THE INPUT: true; the input reads as it did. -/
def countSumsSpec : ChangeSpec := { name := "countSums", fn := fun _ => fun
  | [d1, d2] => { results := [.lit (.bool true)], args := [d1, d2] }
  | _ => none }
def countSumsRow : OpenClaim := { program := "ytjciilnbcmaikaa", sum := "e7a5830ed3d5bd295293608d3b949626e5f10ad62ea61e62924cd4404879081a", func := "lamplighter/lamplighterlaw37.CountSums", spec := "countSums", apart := false }
def CountSumsSaid : Prop := countSumsRow.holds Try.pinned (OpenSpec.ofChange countSumsSpec)

/-- ITS FALSE NEIGHBOUR: 'it returns false'. Refute it at one input. -/
def countSumsWrong : ChangeSpec := { name := "countSums", fn := fun _ => fun
  | [d1, d2] => { results := [.lit (.bool false)], args := [d1, d2] }
  | _ => none }
def CountSumsWrongFalsely : Prop := countSumsRow.holds Try.pinned (OpenSpec.ofChange countSumsWrong)

/-- 'lamplighterlaw16.PatParts': WHATEVER THE INPUT: true; the input reads as it did. -/
def patPartsSpec : ChangeSpec := { name := "patParts", fn := fun _ => fun
  | [d1, d2, d3] => { results := [.lit (.bool true)], args := [d1, d2, d3] }
  | _ => none }
def patPartsRow : OpenClaim := { program := "ytjciilnbcmaikaa", sum := "e7a5830ed3d5bd295293608d3b949626e5f10ad62ea61e62924cd4404879081a", func := "lamplighter/lamplighterlaw16.PatParts", spec := "patParts", unfollowed := true, recurses := true, apart := false }
def PatPartsSaid : Prop := patPartsRow.holds Try.pinned (OpenSpec.ofChange patPartsSpec)

/-- ITS FALSE NEIGHBOUR: 'it returns false'. Refute it at one input. -/
def patPartsWrong : ChangeSpec := { name := "patParts", fn := fun _ => fun
  | [d1, d2, d3] => { results := [.lit (.bool false)], args := [d1, d2, d3] }
  | _ => none }
def PatPartsWrongFalsely : Prop := patPartsRow.holds Try.pinned (OpenSpec.ofChange patPartsWrong)

/-- 'lamplighterlaw16.PatScope': WHATEVER THE INPUT: true; the input reads as it did. -/
def patScopeSpec : ChangeSpec := { name := "patScope", fn := fun _ => fun
  | [d1, d2] => { results := [.lit (.bool true)], args := [d1, d2] }
  | _ => none }
def patScopeRow : OpenClaim := { program := "ytjciilnbcmaikaa", sum := "e7a5830ed3d5bd295293608d3b949626e5f10ad62ea61e62924cd4404879081a", func := "lamplighter/lamplighterlaw16.PatScope", spec := "patScope", unfollowed := true, recurses := true, apart := false }
def PatScopeSaid : Prop := patScopeRow.holds Try.pinned (OpenSpec.ofChange patScopeSpec)

/-- ITS FALSE NEIGHBOUR: 'it returns false'. Refute it at one input. -/
def patScopeWrong : ChangeSpec := { name := "patScope", fn := fun _ => fun
  | [d1, d2] => { results := [.lit (.bool false)], args := [d1, d2] }
  | _ => none }
def PatScopeWrongFalsely : Prop := patScopeRow.holds Try.pinned (OpenSpec.ofChange patScopeWrong)

/-- 'lamplighterlaw22.RunOver': WHATEVER THE INPUT: true; the input reads as it did. -/
def runOverSpec : ChangeSpec := { name := "runOver", fn := fun _ => fun
  | [d1, d2, d3] => { results := [.lit (.bool true)], args := [d1, d2, d3] }
  | _ => none }
def runOverRow : OpenClaim := { program := "ytjciilnbcmaikaa", sum := "e7a5830ed3d5bd295293608d3b949626e5f10ad62ea61e62924cd4404879081a", func := "lamplighter/lamplighterlaw22.RunOver", spec := "runOver", unfollowed := true, recurses := true, apart := false }
def RunOverSaid : Prop := runOverRow.holds Try.pinned (OpenSpec.ofChange runOverSpec)

/-- ITS FALSE NEIGHBOUR: 'it returns false'. Refute it at one input. -/
def runOverWrong : ChangeSpec := { name := "runOver", fn := fun _ => fun
  | [d1, d2, d3] => { results := [.lit (.bool false)], args := [d1, d2, d3] }
  | _ => none }
def RunOverWrongFalsely : Prop := runOverRow.holds Try.pinned (OpenSpec.ofChange runOverWrong)

/-- 'lamplighterlaw22.RunAgain': WHATEVER THE INPUT: true; the input reads as it did. -/
def runAgainSpec : ChangeSpec := { name := "runAgain", fn := fun _ => fun
  | [d1, d2, d3] => { results := [.lit (.bool true)], args := [d1, d2, d3] }
  | _ => none }
def runAgainRow : OpenClaim := { program := "ytjciilnbcmaikaa", sum := "e7a5830ed3d5bd295293608d3b949626e5f10ad62ea61e62924cd4404879081a", func := "lamplighter/lamplighterlaw22.RunAgain", spec := "runAgain", unfollowed := true, recurses := true, apart := false }
def RunAgainSaid : Prop := runAgainRow.holds Try.pinned (OpenSpec.ofChange runAgainSpec)

/-- ITS FALSE NEIGHBOUR: 'it returns false'. Refute it at one input. -/
def runAgainWrong : ChangeSpec := { name := "runAgain", fn := fun _ => fun
  | [d1, d2, d3] => { results := [.lit (.bool false)], args := [d1, d2, d3] }
  | _ => none }
def RunAgainWrongFalsely : Prop := runAgainRow.holds Try.pinned (OpenSpec.ofChange runAgainWrong)

/-- 'lamplighterlaw21.NfaMoves': WHATEVER THE INPUT: true; the input reads as it did. -/
def nfaMovesSpec : ChangeSpec := { name := "nfaMoves", fn := fun _ => fun
  | [d1, d2] => { results := [.lit (.bool true)], args := [d1, d2] }
  | _ => none }
def nfaMovesRow : OpenClaim := { program := "ytjciilnbcmaikaa", sum := "e7a5830ed3d5bd295293608d3b949626e5f10ad62ea61e62924cd4404879081a", func := "lamplighter/lamplighterlaw21.NfaMoves", spec := "nfaMoves", apart := false }
def NfaMovesSaid : Prop := nfaMovesRow.holds Try.pinned (OpenSpec.ofChange nfaMovesSpec)

/-- ITS FALSE NEIGHBOUR: 'it returns false'. Refute it at one input. -/
def nfaMovesWrong : ChangeSpec := { name := "nfaMoves", fn := fun _ => fun
  | [d1, d2] => { results := [.lit (.bool false)], args := [d1, d2] }
  | _ => none }
def NfaMovesWrongFalsely : Prop := nfaMovesRow.holds Try.pinned (OpenSpec.ofChange nfaMovesWrong)

/-- 'lamplighterlaw05.HeapPlays': WHATEVER THE INPUT: true; the input reads as it did. -/
def heapPlaysSpec : ChangeSpec := { name := "heapPlays", fn := fun _ => fun
  | [d] => { results := [.lit (.bool true)], args := [d] }
  | _ => none }
def heapPlaysRow : OpenClaim := { program := "ytjciilnbcmaikaa", sum := "e7a5830ed3d5bd295293608d3b949626e5f10ad62ea61e62924cd4404879081a", func := "lamplighter/lamplighterlaw05.HeapPlays", spec := "heapPlays", unfollowed := true, recurses := true, apart := false }
def HeapPlaysSaid : Prop := heapPlaysRow.holds Try.pinned (OpenSpec.ofChange heapPlaysSpec)

/-- ITS FALSE NEIGHBOUR: 'it returns false'. Refute it at one input. -/
def heapPlaysWrong : ChangeSpec := { name := "heapPlays", fn := fun _ => fun
  | [d] => { results := [.lit (.bool false)], args := [d] }
  | _ => none }
def HeapPlaysWrongFalsely : Prop := heapPlaysRow.holds Try.pinned (OpenSpec.ofChange heapPlaysWrong)

/-- 'lamplighterlaw05.HeapDrains': WHATEVER THE INPUT: true; the input reads as it did. -/
def heapDrainsSpec : ChangeSpec := { name := "heapDrains", fn := fun _ => fun
  | [d1, d2] => { results := [.lit (.bool true)], args := [d1, d2] }
  | _ => none }
def heapDrainsRow : OpenClaim := { program := "ytjciilnbcmaikaa", sum := "e7a5830ed3d5bd295293608d3b949626e5f10ad62ea61e62924cd4404879081a", func := "lamplighter/lamplighterlaw05.HeapDrains", spec := "heapDrains", unfollowed := true, recurses := true, apart := false }
def HeapDrainsSaid : Prop := heapDrainsRow.holds Try.pinned (OpenSpec.ofChange heapDrainsSpec)

/-- ITS FALSE NEIGHBOUR: 'it returns false'. Refute it at one input. -/
def heapDrainsWrong : ChangeSpec := { name := "heapDrains", fn := fun _ => fun
  | [d1, d2] => { results := [.lit (.bool false)], args := [d1, d2] }
  | _ => none }
def HeapDrainsWrongFalsely : Prop := heapDrainsRow.holds Try.pinned (OpenSpec.ofChange heapDrainsWrong)

/-- 'lamplighterlaw40.MsgSame': WHATEVER THE INPUT: true; the input reads as it did. -/
def msgSameSpec : ChangeSpec := { name := "msgSame", fn := fun _ => fun
  | [d1, d2] => { results := [.lit (.bool true)], args := [d1, d2] }
  | _ => none }
def msgSameRow : OpenClaim := { program := "ytjciilnbcmaikaa", sum := "e7a5830ed3d5bd295293608d3b949626e5f10ad62ea61e62924cd4404879081a", func := "lamplighter/lamplighterlaw40.MsgSame", spec := "msgSame", unfollowed := true, recurses := true, apart := false }
def MsgSameSaid : Prop := msgSameRow.holds Try.pinned (OpenSpec.ofChange msgSameSpec)

/-- ITS FALSE NEIGHBOUR: 'it returns false'. Refute it at one input. -/
def msgSameWrong : ChangeSpec := { name := "msgSame", fn := fun _ => fun
  | [d1, d2] => { results := [.lit (.bool false)], args := [d1, d2] }
  | _ => none }
def MsgSameWrongFalsely : Prop := msgSameRow.holds Try.pinned (OpenSpec.ofChange msgSameWrong)

/-- 'lamplighterlaw40.MsgGoes': WHATEVER THE INPUT: true; the input reads as it did. -/
def msgGoesSpec : ChangeSpec := { name := "msgGoes", fn := fun _ => fun
  | [d1, d2] => { results := [.lit (.bool true)], args := [d1, d2] }
  | _ => none }
def msgGoesRow : OpenClaim := { program := "ytjciilnbcmaikaa", sum := "e7a5830ed3d5bd295293608d3b949626e5f10ad62ea61e62924cd4404879081a", func := "lamplighter/lamplighterlaw40.MsgGoes", spec := "msgGoes", unfollowed := true, recurses := true, apart := false }
def MsgGoesSaid : Prop := msgGoesRow.holds Try.pinned (OpenSpec.ofChange msgGoesSpec)

/-- ITS FALSE NEIGHBOUR: 'it returns false'. Refute it at one input. -/
def msgGoesWrong : ChangeSpec := { name := "msgGoes", fn := fun _ => fun
  | [d1, d2] => { results := [.lit (.bool false)], args := [d1, d2] }
  | _ => none }
def MsgGoesWrongFalsely : Prop := msgGoesRow.holds Try.pinned (OpenSpec.ofChange msgGoesWrong)

/- THE SECOND FORM. 'bulk': how many values and letters a reading holds, each counted each time it is reached (what is shared counts as often as it is met; a slice's spare places count too). A statement '..UptoSaid' is the law's where the arguments, and the package variables that the reading takes, are together of bulk at most 1048576: NARROWER than '..Said'. Prove '..Said' where nothing that the law and all that it calls make is longer than what came in: it says more and counts as full. Else prove '..UptoSaid'. A law counts once. -/
mutual
def uptoBulk {H : Type} : DataW H → Nat
  | .lit (.string bytes) => bytes.length + 1
  | .lit _ => 1
  | .nil => 1
  | .ptr d => uptoBulk d + 1
  | .slice elems spare => uptoBulkAll elems + uptoBulkAll spare + 1
  | .agg parts => uptoBulkAll parts + 1
  | .iface _ d => uptoBulk d + 1
  | .map entries => uptoBulkEntries entries + 1
  | .held _ => 1
def uptoBulkAll {H : Type} : List (DataW H) → Nat
  | [] => 0
  | d :: r => uptoBulk d + uptoBulkAll r
def uptoBulkEntries {H : Type} : List (Lit × DataW H) → Nat
  | [] => 0
  | x :: r => uptoBulkEntry x + uptoBulkEntries r
def uptoBulkEntry {H : Type} : Lit × DataW H → Nat
  | (.string bytes, d) => bytes.length + uptoBulk d + 1
  | (_, d) => uptoBulk d + 1
 end
def uptoSmall : (H : Type) → List (DataW H) → Bool := fun _ ds => decide (uptoBulkAll ds ≤ 1048576)
def OpenSpec.upto (s : _root_.Go.ChangeSpec) : _root_.Go.OpenSpec := { _root_.Go.OpenSpec.ofChange s with cond := some uptoSmall }

/-- 'lamplighterlaw37.CountPlays', WHERE WHAT IT READS IS OF BULK AT MOST 1048576: true; the input reads as it did. -/
def countPlaysUptoRow : OpenClaim := { program := "ytjciilnbcmaikaa", sum := "e7a5830ed3d5bd295293608d3b949626e5f10ad62ea61e62924cd4404879081a", func := "lamplighter/lamplighterlaw37.CountPlays", spec := "countPlays", apart := false, narrowed := true }
def CountPlaysUptoSaid : Prop := countPlaysUptoRow.holds Try.pinned (OpenSpec.upto countPlaysSpec)

/-- 'lamplighterlaw37.CountReads', WHERE WHAT IT READS IS OF BULK AT MOST 1048576: true; the input reads as it did. -/
def countReadsUptoRow : OpenClaim := { program := "ytjciilnbcmaikaa", sum := "e7a5830ed3d5bd295293608d3b949626e5f10ad62ea61e62924cd4404879081a", func := "lamplighter/lamplighterlaw37.CountReads", spec := "countReads", apart := false, narrowed := true }
def CountReadsUptoSaid : Prop := countReadsUptoRow.holds Try.pinned (OpenSpec.upto countReadsSpec)

/-- 'lamplighterlaw37.CountSums', WHERE WHAT IT READS IS OF BULK AT MOST 1048576: true; the input reads as it did. -/
def countSumsUptoRow : OpenClaim := { program := "ytjciilnbcmaikaa", sum := "e7a5830ed3d5bd295293608d3b949626e5f10ad62ea61e62924cd4404879081a", func := "lamplighter/lamplighterlaw37.CountSums", spec := "countSums", apart := false, narrowed := true }
def CountSumsUptoSaid : Prop := countSumsUptoRow.holds Try.pinned (OpenSpec.upto countSumsSpec)

/-- 'lamplighterlaw16.PatParts', WHERE WHAT IT READS IS OF BULK AT MOST 1048576: true; the input reads as it did. -/
def patPartsUptoRow : OpenClaim := { program := "ytjciilnbcmaikaa", sum := "e7a5830ed3d5bd295293608d3b949626e5f10ad62ea61e62924cd4404879081a", func := "lamplighter/lamplighterlaw16.PatParts", spec := "patParts", unfollowed := true, recurses := true, apart := false, narrowed := true }
def PatPartsUptoSaid : Prop := patPartsUptoRow.holds Try.pinned (OpenSpec.upto patPartsSpec)

/-- 'lamplighterlaw16.PatScope', WHERE WHAT IT READS IS OF BULK AT MOST 1048576: true; the input reads as it did. -/
def patScopeUptoRow : OpenClaim := { program := "ytjciilnbcmaikaa", sum := "e7a5830ed3d5bd295293608d3b949626e5f10ad62ea61e62924cd4404879081a", func := "lamplighter/lamplighterlaw16.PatScope", spec := "patScope", unfollowed := true, recurses := true, apart := false, narrowed := true }
def PatScopeUptoSaid : Prop := patScopeUptoRow.holds Try.pinned (OpenSpec.upto patScopeSpec)

/-- 'lamplighterlaw22.RunOver', WHERE WHAT IT READS IS OF BULK AT MOST 1048576: true; the input reads as it did. -/
def runOverUptoRow : OpenClaim := { program := "ytjciilnbcmaikaa", sum := "e7a5830ed3d5bd295293608d3b949626e5f10ad62ea61e62924cd4404879081a", func := "lamplighter/lamplighterlaw22.RunOver", spec := "runOver", unfollowed := true, recurses := true, apart := false, narrowed := true }
def RunOverUptoSaid : Prop := runOverUptoRow.holds Try.pinned (OpenSpec.upto runOverSpec)

/-- 'lamplighterlaw22.RunAgain', WHERE WHAT IT READS IS OF BULK AT MOST 1048576: true; the input reads as it did. -/
def runAgainUptoRow : OpenClaim := { program := "ytjciilnbcmaikaa", sum := "e7a5830ed3d5bd295293608d3b949626e5f10ad62ea61e62924cd4404879081a", func := "lamplighter/lamplighterlaw22.RunAgain", spec := "runAgain", unfollowed := true, recurses := true, apart := false, narrowed := true }
def RunAgainUptoSaid : Prop := runAgainUptoRow.holds Try.pinned (OpenSpec.upto runAgainSpec)

/-- 'lamplighterlaw21.NfaMoves', WHERE WHAT IT READS IS OF BULK AT MOST 1048576: true; the input reads as it did. -/
def nfaMovesUptoRow : OpenClaim := { program := "ytjciilnbcmaikaa", sum := "e7a5830ed3d5bd295293608d3b949626e5f10ad62ea61e62924cd4404879081a", func := "lamplighter/lamplighterlaw21.NfaMoves", spec := "nfaMoves", apart := false, narrowed := true }
def NfaMovesUptoSaid : Prop := nfaMovesUptoRow.holds Try.pinned (OpenSpec.upto nfaMovesSpec)

/-- 'lamplighterlaw05.HeapPlays', WHERE WHAT IT READS IS OF BULK AT MOST 1048576: true; the input reads as it did. -/
def heapPlaysUptoRow : OpenClaim := { program := "ytjciilnbcmaikaa", sum := "e7a5830ed3d5bd295293608d3b949626e5f10ad62ea61e62924cd4404879081a", func := "lamplighter/lamplighterlaw05.HeapPlays", spec := "heapPlays", unfollowed := true, recurses := true, apart := false, narrowed := true }
def HeapPlaysUptoSaid : Prop := heapPlaysUptoRow.holds Try.pinned (OpenSpec.upto heapPlaysSpec)

/-- 'lamplighterlaw05.HeapDrains', WHERE WHAT IT READS IS OF BULK AT MOST 1048576: true; the input reads as it did. -/
def heapDrainsUptoRow : OpenClaim := { program := "ytjciilnbcmaikaa", sum := "e7a5830ed3d5bd295293608d3b949626e5f10ad62ea61e62924cd4404879081a", func := "lamplighter/lamplighterlaw05.HeapDrains", spec := "heapDrains", unfollowed := true, recurses := true, apart := false, narrowed := true }
def HeapDrainsUptoSaid : Prop := heapDrainsUptoRow.holds Try.pinned (OpenSpec.upto heapDrainsSpec)

/-- 'lamplighterlaw40.MsgSame', WHERE WHAT IT READS IS OF BULK AT MOST 1048576: true; the input reads as it did. -/
def msgSameUptoRow : OpenClaim := { program := "ytjciilnbcmaikaa", sum := "e7a5830ed3d5bd295293608d3b949626e5f10ad62ea61e62924cd4404879081a", func := "lamplighter/lamplighterlaw40.MsgSame", spec := "msgSame", unfollowed := true, recurses := true, apart := false, narrowed := true }
def MsgSameUptoSaid : Prop := msgSameUptoRow.holds Try.pinned (OpenSpec.upto msgSameSpec)

/-- 'lamplighterlaw40.MsgGoes', WHERE WHAT IT READS IS OF BULK AT MOST 1048576: true; the input reads as it did. -/
def msgGoesUptoRow : OpenClaim := { program := "ytjciilnbcmaikaa", sum := "e7a5830ed3d5bd295293608d3b949626e5f10ad62ea61e62924cd4404879081a", func := "lamplighter/lamplighterlaw40.MsgGoes", spec := "msgGoes", unfollowed := true, recurses := true, apart := false, narrowed := true }
def MsgGoesUptoSaid : Prop := msgGoesUptoRow.holds Try.pinned (OpenSpec.upto msgGoesSpec)

end Rows
end Go.Proofs.Ytjciilnbcmaikaa
