/-
  No cell of these rows narrows 'for every input' (looked for: loops, veiled, ifaces, maps, wideKeys, modest, calm, conditions, laid).
  DERIVED. THE GIVEN ROWS OF THIS SEAT. 12 by the template 'for every input the law returns true; each argument reads behind the call as it read before'; 0 by the template 'total and deterministic' (their statements: YtmkofjdmjilpiabTotals.lean).
  GIVEN WITH THE SEED: the statements are not yours to turn. If you find one false, say at which input.
  Laid BY PROGRAM, IN A SANDBOX (cutbox-rows.mjs): the forced cells as the released guide's own fill.sh prints them over the translation 64d25d85bab14edb… (all of the seat's roots in one cut). By AI agents, Wed Nov 11 2026. No macro, syntax, notation, axiom, sorry.
-/
import Derived.Test.YtmkofjdmjilpiabChecked
import GoSem.Claim
import GoSem.ClaimJoined
import GoSem.ClaimMapViews
import Derived.JoinedTies
import Derived.KernelRfl
namespace Go.Proofs.Ytmkofjdmjilpiab
/- THE CELL 'sum', in the pinned program and in every row, IS THE sha256 OF THE DUMP (.gsa) THAT YtmkofjdmjilpiabProg.lean LOADS. Nothing in Lean hashes anything: it is a label: what it is worth is what the hold of that sum in a sandbox is worth. -/
noncomputable def Try.pinned : Pinned := { name := "ytmkofjdmjilpiab", sum := "64d25d85bab14edbdc2cd40663b9b83b085eb211e045a6fa98a160b8113ec88d", checked := Try.checked }
namespace Rows
def none {H : Type} : Left H := { results := [], args := [] }

/-- 'lamplighterlaw38.GatePlays': WHATEVER THE INPUT: true; the input reads as it did. -/
def gatePlaysSpec : ChangeSpec := { name := "gatePlays", fn := fun _ => fun
  | [d] => { results := [.lit (.bool true)], args := [d] }
  | _ => none }
def gatePlaysRow : OpenClaim := { program := "ytmkofjdmjilpiab", sum := "64d25d85bab14edbdc2cd40663b9b83b085eb211e045a6fa98a160b8113ec88d", func := "lamplighter/lamplighterlaw38.GatePlays", spec := "gatePlays", apart := false }
def GatePlaysSaid : Prop := gatePlaysRow.holds Try.pinned (OpenSpec.ofChange gatePlaysSpec)

/-- ITS FALSE NEIGHBOUR: 'it returns false'. Refute it at one input. -/
def gatePlaysWrong : ChangeSpec := { name := "gatePlays", fn := fun _ => fun
  | [d] => { results := [.lit (.bool false)], args := [d] }
  | _ => none }
def GatePlaysWrongFalsely : Prop := gatePlaysRow.holds Try.pinned (OpenSpec.ofChange gatePlaysWrong)

/-- 'lamplighterlaw34.QueuePlays': WHATEVER THE INPUT: true; the input reads as it did. -/
def queuePlaysSpec : ChangeSpec := { name := "queuePlays", fn := fun _ => fun
  | [d1, d2] => { results := [.lit (.bool true)], args := [d1, d2] }
  | _ => none }
def queuePlaysRow : OpenClaim := { program := "ytmkofjdmjilpiab", sum := "64d25d85bab14edbdc2cd40663b9b83b085eb211e045a6fa98a160b8113ec88d", func := "lamplighter/lamplighterlaw34.QueuePlays", spec := "queuePlays", apart := false }
def QueuePlaysSaid : Prop := queuePlaysRow.holds Try.pinned (OpenSpec.ofChange queuePlaysSpec)

/-- ITS FALSE NEIGHBOUR: 'it returns false'. Refute it at one input. -/
def queuePlaysWrong : ChangeSpec := { name := "queuePlays", fn := fun _ => fun
  | [d1, d2] => { results := [.lit (.bool false)], args := [d1, d2] }
  | _ => none }
def QueuePlaysWrongFalsely : Prop := queuePlaysRow.holds Try.pinned (OpenSpec.ofChange queuePlaysWrong)

/-- 'lamplighterlaw34.QueueNone': WHATEVER THE INPUT: true; the input reads as it did. -/
def queueNoneSpec : ChangeSpec := { name := "queueNone", fn := fun _ => fun
  | [d] => { results := [.lit (.bool true)], args := [d] }
  | _ => none }
def queueNoneRow : OpenClaim := { program := "ytmkofjdmjilpiab", sum := "64d25d85bab14edbdc2cd40663b9b83b085eb211e045a6fa98a160b8113ec88d", func := "lamplighter/lamplighterlaw34.QueueNone", spec := "queueNone", apart := false }
def QueueNoneSaid : Prop := queueNoneRow.holds Try.pinned (OpenSpec.ofChange queueNoneSpec)

/-- ITS FALSE NEIGHBOUR: 'it returns false'. Refute it at one input. -/
def queueNoneWrong : ChangeSpec := { name := "queueNone", fn := fun _ => fun
  | [d] => { results := [.lit (.bool false)], args := [d] }
  | _ => none }
def QueueNoneWrongFalsely : Prop := queueNoneRow.holds Try.pinned (OpenSpec.ofChange queueNoneWrong)

/-- 'lamplighterlaw07.PersTells': WHATEVER THE INPUT: true; the input reads as it did. -/
def persTellsSpec : ChangeSpec := { name := "persTells", fn := fun _ => fun
  | [d1, d2] => { results := [.lit (.bool true)], args := [d1, d2] }
  | _ => none }
def persTellsRow : OpenClaim := { program := "ytmkofjdmjilpiab", sum := "64d25d85bab14edbdc2cd40663b9b83b085eb211e045a6fa98a160b8113ec88d", func := "lamplighter/lamplighterlaw07.PersTells", spec := "persTells", unfollowed := true, recurses := true, apart := false }
def PersTellsSaid : Prop := persTellsRow.holds Try.pinned (OpenSpec.ofChange persTellsSpec)

/-- ITS FALSE NEIGHBOUR: 'it returns false'. Refute it at one input. -/
def persTellsWrong : ChangeSpec := { name := "persTells", fn := fun _ => fun
  | [d1, d2] => { results := [.lit (.bool false)], args := [d1, d2] }
  | _ => none }
def PersTellsWrongFalsely : Prop := persTellsRow.holds Try.pinned (OpenSpec.ofChange persTellsWrong)

/-- 'lamplighterlaw03.SchemaFinds': WHATEVER THE INPUT: true; the input reads as it did. -/
def schemaFindsSpec : ChangeSpec := { name := "schemaFinds", fn := fun _ => fun
  | [d1, d2] => { results := [.lit (.bool true)], args := [d1, d2] }
  | _ => none }
def schemaFindsRow : OpenClaim := { program := "ytmkofjdmjilpiab", sum := "64d25d85bab14edbdc2cd40663b9b83b085eb211e045a6fa98a160b8113ec88d", func := "lamplighter/lamplighterlaw03.SchemaFinds", spec := "schemaFinds", unfollowed := true, recurses := true, apart := false }
def SchemaFindsSaid : Prop := schemaFindsRow.holds Try.pinned (OpenSpec.ofChange schemaFindsSpec)

/-- ITS FALSE NEIGHBOUR: 'it returns false'. Refute it at one input. -/
def schemaFindsWrong : ChangeSpec := { name := "schemaFinds", fn := fun _ => fun
  | [d1, d2] => { results := [.lit (.bool false)], args := [d1, d2] }
  | _ => none }
def SchemaFindsWrongFalsely : Prop := schemaFindsRow.holds Try.pinned (OpenSpec.ofChange schemaFindsWrong)

/-- 'lamplighterlaw40.MsgSame': WHATEVER THE INPUT: true; the input reads as it did. -/
def msgSameSpec : ChangeSpec := { name := "msgSame", fn := fun _ => fun
  | [d1, d2] => { results := [.lit (.bool true)], args := [d1, d2] }
  | _ => none }
def msgSameRow : OpenClaim := { program := "ytmkofjdmjilpiab", sum := "64d25d85bab14edbdc2cd40663b9b83b085eb211e045a6fa98a160b8113ec88d", func := "lamplighter/lamplighterlaw40.MsgSame", spec := "msgSame", unfollowed := true, recurses := true, apart := false }
def MsgSameSaid : Prop := msgSameRow.holds Try.pinned (OpenSpec.ofChange msgSameSpec)

/-- ITS FALSE NEIGHBOUR: 'it returns false'. Refute it at one input. -/
def msgSameWrong : ChangeSpec := { name := "msgSame", fn := fun _ => fun
  | [d1, d2] => { results := [.lit (.bool false)], args := [d1, d2] }
  | _ => none }
def MsgSameWrongFalsely : Prop := msgSameRow.holds Try.pinned (OpenSpec.ofChange msgSameWrong)

/-- 'lamplighterlaw40.MsgGoes': WHATEVER THE INPUT: true; the input reads as it did. -/
def msgGoesSpec : ChangeSpec := { name := "msgGoes", fn := fun _ => fun
  | [d1, d2] => { results := [.lit (.bool true)], args := [d1, d2] }
  | _ => none }
def msgGoesRow : OpenClaim := { program := "ytmkofjdmjilpiab", sum := "64d25d85bab14edbdc2cd40663b9b83b085eb211e045a6fa98a160b8113ec88d", func := "lamplighter/lamplighterlaw40.MsgGoes", spec := "msgGoes", unfollowed := true, recurses := true, apart := false }
def MsgGoesSaid : Prop := msgGoesRow.holds Try.pinned (OpenSpec.ofChange msgGoesSpec)

/-- ITS FALSE NEIGHBOUR: 'it returns false'. Refute it at one input. -/
def msgGoesWrong : ChangeSpec := { name := "msgGoes", fn := fun _ => fun
  | [d1, d2] => { results := [.lit (.bool false)], args := [d1, d2] }
  | _ => none }
def MsgGoesWrongFalsely : Prop := msgGoesRow.holds Try.pinned (OpenSpec.ofChange msgGoesWrong)

/-- 'lamplighterlaw05.HeapPlays': WHATEVER THE INPUT: true; the input reads as it did. -/
def heapPlaysSpec : ChangeSpec := { name := "heapPlays", fn := fun _ => fun
  | [d] => { results := [.lit (.bool true)], args := [d] }
  | _ => none }
def heapPlaysRow : OpenClaim := { program := "ytmkofjdmjilpiab", sum := "64d25d85bab14edbdc2cd40663b9b83b085eb211e045a6fa98a160b8113ec88d", func := "lamplighter/lamplighterlaw05.HeapPlays", spec := "heapPlays", unfollowed := true, recurses := true, apart := false }
def HeapPlaysSaid : Prop := heapPlaysRow.holds Try.pinned (OpenSpec.ofChange heapPlaysSpec)

/-- ITS FALSE NEIGHBOUR: 'it returns false'. Refute it at one input. -/
def heapPlaysWrong : ChangeSpec := { name := "heapPlays", fn := fun _ => fun
  | [d] => { results := [.lit (.bool false)], args := [d] }
  | _ => none }
def HeapPlaysWrongFalsely : Prop := heapPlaysRow.holds Try.pinned (OpenSpec.ofChange heapPlaysWrong)

/-- 'lamplighterlaw05.HeapDrains': WHATEVER THE INPUT: true; the input reads as it did. -/
def heapDrainsSpec : ChangeSpec := { name := "heapDrains", fn := fun _ => fun
  | [d1, d2] => { results := [.lit (.bool true)], args := [d1, d2] }
  | _ => none }
def heapDrainsRow : OpenClaim := { program := "ytmkofjdmjilpiab", sum := "64d25d85bab14edbdc2cd40663b9b83b085eb211e045a6fa98a160b8113ec88d", func := "lamplighter/lamplighterlaw05.HeapDrains", spec := "heapDrains", unfollowed := true, recurses := true, apart := false }
def HeapDrainsSaid : Prop := heapDrainsRow.holds Try.pinned (OpenSpec.ofChange heapDrainsSpec)

/-- ITS FALSE NEIGHBOUR: 'it returns false'. Refute it at one input. -/
def heapDrainsWrong : ChangeSpec := { name := "heapDrains", fn := fun _ => fun
  | [d1, d2] => { results := [.lit (.bool false)], args := [d1, d2] }
  | _ => none }
def HeapDrainsWrongFalsely : Prop := heapDrainsRow.holds Try.pinned (OpenSpec.ofChange heapDrainsWrong)

/-- 'lamplighterlaw21.NfaMoves': WHATEVER THE INPUT: true; the input reads as it did. -/
def nfaMovesSpec : ChangeSpec := { name := "nfaMoves", fn := fun _ => fun
  | [d1, d2] => { results := [.lit (.bool true)], args := [d1, d2] }
  | _ => none }
def nfaMovesRow : OpenClaim := { program := "ytmkofjdmjilpiab", sum := "64d25d85bab14edbdc2cd40663b9b83b085eb211e045a6fa98a160b8113ec88d", func := "lamplighter/lamplighterlaw21.NfaMoves", spec := "nfaMoves", apart := false }
def NfaMovesSaid : Prop := nfaMovesRow.holds Try.pinned (OpenSpec.ofChange nfaMovesSpec)

/-- ITS FALSE NEIGHBOUR: 'it returns false'. Refute it at one input. -/
def nfaMovesWrong : ChangeSpec := { name := "nfaMoves", fn := fun _ => fun
  | [d1, d2] => { results := [.lit (.bool false)], args := [d1, d2] }
  | _ => none }
def NfaMovesWrongFalsely : Prop := nfaMovesRow.holds Try.pinned (OpenSpec.ofChange nfaMovesWrong)

/-- 'lamplighterlaw22.RunOver': WHATEVER THE INPUT: true; the input reads as it did. -/
def runOverSpec : ChangeSpec := { name := "runOver", fn := fun _ => fun
  | [d1, d2, d3] => { results := [.lit (.bool true)], args := [d1, d2, d3] }
  | _ => none }
def runOverRow : OpenClaim := { program := "ytmkofjdmjilpiab", sum := "64d25d85bab14edbdc2cd40663b9b83b085eb211e045a6fa98a160b8113ec88d", func := "lamplighter/lamplighterlaw22.RunOver", spec := "runOver", unfollowed := true, recurses := true, apart := false }
def RunOverSaid : Prop := runOverRow.holds Try.pinned (OpenSpec.ofChange runOverSpec)

/-- ITS FALSE NEIGHBOUR: 'it returns false'. Refute it at one input. -/
def runOverWrong : ChangeSpec := { name := "runOver", fn := fun _ => fun
  | [d1, d2, d3] => { results := [.lit (.bool false)], args := [d1, d2, d3] }
  | _ => none }
def RunOverWrongFalsely : Prop := runOverRow.holds Try.pinned (OpenSpec.ofChange runOverWrong)

/-- 'lamplighterlaw16.PatParts': WHATEVER THE INPUT: true; the input reads as it did. -/
def patPartsSpec : ChangeSpec := { name := "patParts", fn := fun _ => fun
  | [d1, d2, d3] => { results := [.lit (.bool true)], args := [d1, d2, d3] }
  | _ => none }
def patPartsRow : OpenClaim := { program := "ytmkofjdmjilpiab", sum := "64d25d85bab14edbdc2cd40663b9b83b085eb211e045a6fa98a160b8113ec88d", func := "lamplighter/lamplighterlaw16.PatParts", spec := "patParts", unfollowed := true, recurses := true, apart := false }
def PatPartsSaid : Prop := patPartsRow.holds Try.pinned (OpenSpec.ofChange patPartsSpec)

/-- ITS FALSE NEIGHBOUR: 'it returns false'. Refute it at one input. -/
def patPartsWrong : ChangeSpec := { name := "patParts", fn := fun _ => fun
  | [d1, d2, d3] => { results := [.lit (.bool false)], args := [d1, d2, d3] }
  | _ => none }
def PatPartsWrongFalsely : Prop := patPartsRow.holds Try.pinned (OpenSpec.ofChange patPartsWrong)

/- THE SECOND FORM. 'bulk': how many values and letters a reading holds, each counted each time it is reached (what is shared counts as often as it is met; a slice's spare places count too). A statement '..UptoSaid' is the law's where the arguments, and the package variables that the reading takes, are together of bulk at most 1048576: NARROWER than '..Said'. Prove '..Said' where nothing that the law and all that it calls make is longer than what came in: it says more and counts as full. Else prove '..UptoSaid'. A law counts once. -/
mutual
def uptoBulk {H : Type} : DataW H → Nat
  | .lit (.string bytes) => bytes.length + 1
  | .lit _ => 1
  | .nil => 1
  | .ptr d => uptoBulk d + 1
  | .slice elems spare => uptoBulkAll elems + uptoBulkAll spare + 1
  | .agg parts => uptoBulkAll parts + 1
  | .iface _ d => uptoBulk d + 1
  | .map entries => uptoBulkEntries entries + 1
  | .held _ => 1
def uptoBulkAll {H : Type} : List (DataW H) → Nat
  | [] => 0
  | d :: r => uptoBulk d + uptoBulkAll r
def uptoBulkEntries {H : Type} : List (Lit × DataW H) → Nat
  | [] => 0
  | x :: r => uptoBulkEntry x + uptoBulkEntries r
def uptoBulkEntry {H : Type} : Lit × DataW H → Nat
  | (.string bytes, d) => bytes.length + uptoBulk d + 1
  | (_, d) => uptoBulk d + 1
 end
def uptoSmall : (H : Type) → List (DataW H) → Bool := fun _ ds => decide (uptoBulkAll ds ≤ 1048576)
def OpenSpec.upto (s : _root_.Go.ChangeSpec) : _root_.Go.OpenSpec := { _root_.Go.OpenSpec.ofChange s with cond := some uptoSmall }

/-- 'lamplighterlaw38.GatePlays', WHERE WHAT IT READS IS OF BULK AT MOST 1048576: true; the input reads as it did. -/
def gatePlaysUptoRow : OpenClaim := { program := "ytmkofjdmjilpiab", sum := "64d25d85bab14edbdc2cd40663b9b83b085eb211e045a6fa98a160b8113ec88d", func := "lamplighter/lamplighterlaw38.GatePlays", spec := "gatePlays", apart := false, narrowed := true }
def GatePlaysUptoSaid : Prop := gatePlaysUptoRow.holds Try.pinned (OpenSpec.upto gatePlaysSpec)

/-- 'lamplighterlaw34.QueuePlays', WHERE WHAT IT READS IS OF BULK AT MOST 1048576: true; the input reads as it did. -/
def queuePlaysUptoRow : OpenClaim := { program := "ytmkofjdmjilpiab", sum := "64d25d85bab14edbdc2cd40663b9b83b085eb211e045a6fa98a160b8113ec88d", func := "lamplighter/lamplighterlaw34.QueuePlays", spec := "queuePlays", apart := false, narrowed := true }
def QueuePlaysUptoSaid : Prop := queuePlaysUptoRow.holds Try.pinned (OpenSpec.upto queuePlaysSpec)

/-- 'lamplighterlaw34.QueueNone', WHERE WHAT IT READS IS OF BULK AT MOST 1048576: true; the input reads as it did. -/
def queueNoneUptoRow : OpenClaim := { program := "ytmkofjdmjilpiab", sum := "64d25d85bab14edbdc2cd40663b9b83b085eb211e045a6fa98a160b8113ec88d", func := "lamplighter/lamplighterlaw34.QueueNone", spec := "queueNone", apart := false, narrowed := true }
def QueueNoneUptoSaid : Prop := queueNoneUptoRow.holds Try.pinned (OpenSpec.upto queueNoneSpec)

/-- 'lamplighterlaw07.PersTells', WHERE WHAT IT READS IS OF BULK AT MOST 1048576: true; the input reads as it did. -/
def persTellsUptoRow : OpenClaim := { program := "ytmkofjdmjilpiab", sum := "64d25d85bab14edbdc2cd40663b9b83b085eb211e045a6fa98a160b8113ec88d", func := "lamplighter/lamplighterlaw07.PersTells", spec := "persTells", unfollowed := true, recurses := true, apart := false, narrowed := true }
def PersTellsUptoSaid : Prop := persTellsUptoRow.holds Try.pinned (OpenSpec.upto persTellsSpec)

/-- 'lamplighterlaw03.SchemaFinds', WHERE WHAT IT READS IS OF BULK AT MOST 1048576: true; the input reads as it did. -/
def schemaFindsUptoRow : OpenClaim := { program := "ytmkofjdmjilpiab", sum := "64d25d85bab14edbdc2cd40663b9b83b085eb211e045a6fa98a160b8113ec88d", func := "lamplighter/lamplighterlaw03.SchemaFinds", spec := "schemaFinds", unfollowed := true, recurses := true, apart := false, narrowed := true }
def SchemaFindsUptoSaid : Prop := schemaFindsUptoRow.holds Try.pinned (OpenSpec.upto schemaFindsSpec)

/-- 'lamplighterlaw40.MsgSame', WHERE WHAT IT READS IS OF BULK AT MOST 1048576: true; the input reads as it did. -/
def msgSameUptoRow : OpenClaim := { program := "ytmkofjdmjilpiab", sum := "64d25d85bab14edbdc2cd40663b9b83b085eb211e045a6fa98a160b8113ec88d", func := "lamplighter/lamplighterlaw40.MsgSame", spec := "msgSame", unfollowed := true, recurses := true, apart := false, narrowed := true }
def MsgSameUptoSaid : Prop := msgSameUptoRow.holds Try.pinned (OpenSpec.upto msgSameSpec)

/-- 'lamplighterlaw40.MsgGoes', WHERE WHAT IT READS IS OF BULK AT MOST 1048576: true; the input reads as it did. -/
def msgGoesUptoRow : OpenClaim := { program := "ytmkofjdmjilpiab", sum := "64d25d85bab14edbdc2cd40663b9b83b085eb211e045a6fa98a160b8113ec88d", func := "lamplighter/lamplighterlaw40.MsgGoes", spec := "msgGoes", unfollowed := true, recurses := true, apart := false, narrowed := true }
def MsgGoesUptoSaid : Prop := msgGoesUptoRow.holds Try.pinned (OpenSpec.upto msgGoesSpec)

/-- 'lamplighterlaw05.HeapPlays', WHERE WHAT IT READS IS OF BULK AT MOST 1048576: true; the input reads as it did. -/
def heapPlaysUptoRow : OpenClaim := { program := "ytmkofjdmjilpiab", sum := "64d25d85bab14edbdc2cd40663b9b83b085eb211e045a6fa98a160b8113ec88d", func := "lamplighter/lamplighterlaw05.HeapPlays", spec := "heapPlays", unfollowed := true, recurses := true, apart := false, narrowed := true }
def HeapPlaysUptoSaid : Prop := heapPlaysUptoRow.holds Try.pinned (OpenSpec.upto heapPlaysSpec)

/-- 'lamplighterlaw05.HeapDrains', WHERE WHAT IT READS IS OF BULK AT MOST 1048576: true; the input reads as it did. -/
def heapDrainsUptoRow : OpenClaim := { program := "ytmkofjdmjilpiab", sum := "64d25d85bab14edbdc2cd40663b9b83b085eb211e045a6fa98a160b8113ec88d", func := "lamplighter/lamplighterlaw05.HeapDrains", spec := "heapDrains", unfollowed := true, recurses := true, apart := false, narrowed := true }
def HeapDrainsUptoSaid : Prop := heapDrainsUptoRow.holds Try.pinned (OpenSpec.upto heapDrainsSpec)

/-- 'lamplighterlaw21.NfaMoves', WHERE WHAT IT READS IS OF BULK AT MOST 1048576: true; the input reads as it did. -/
def nfaMovesUptoRow : OpenClaim := { program := "ytmkofjdmjilpiab", sum := "64d25d85bab14edbdc2cd40663b9b83b085eb211e045a6fa98a160b8113ec88d", func := "lamplighter/lamplighterlaw21.NfaMoves", spec := "nfaMoves", apart := false, narrowed := true }
def NfaMovesUptoSaid : Prop := nfaMovesUptoRow.holds Try.pinned (OpenSpec.upto nfaMovesSpec)

/-- 'lamplighterlaw22.RunOver', WHERE WHAT IT READS IS OF BULK AT MOST 1048576: true; the input reads as it did. -/
def runOverUptoRow : OpenClaim := { program := "ytmkofjdmjilpiab", sum := "64d25d85bab14edbdc2cd40663b9b83b085eb211e045a6fa98a160b8113ec88d", func := "lamplighter/lamplighterlaw22.RunOver", spec := "runOver", unfollowed := true, recurses := true, apart := false, narrowed := true }
def RunOverUptoSaid : Prop := runOverUptoRow.holds Try.pinned (OpenSpec.upto runOverSpec)

/-- 'lamplighterlaw16.PatParts', WHERE WHAT IT READS IS OF BULK AT MOST 1048576: true; the input reads as it did. -/
def patPartsUptoRow : OpenClaim := { program := "ytmkofjdmjilpiab", sum := "64d25d85bab14edbdc2cd40663b9b83b085eb211e045a6fa98a160b8113ec88d", func := "lamplighter/lamplighterlaw16.PatParts", spec := "patParts", unfollowed := true, recurses := true, apart := false, narrowed := true }
def PatPartsUptoSaid : Prop := patPartsUptoRow.holds Try.pinned (OpenSpec.upto patPartsSpec)

end Rows
end Go.Proofs.Ytmkofjdmjilpiab
