/-
  No cell of these rows narrows 'for every input' (looked for: loops, veiled, ifaces, maps, wideKeys, modest, calm, conditions, laid).
  DERIVED. THE GIVEN ROWS OF THIS SEAT. 10 by the template 'for every input the law returns true; each argument reads behind the call as it read before'; 0 by the template 'total and deterministic' (their statements: YtenlnnhhmgjapaaTotals.lean).
  GIVEN WITH THE SEED: the statements are not yours to turn. If you find one false, say at which input.
  Laid BY PROGRAM, IN A SANDBOX (cutbox-rows.mjs): the forced cells as the released guide's own fill.sh prints them over the translation f6622793d5d5edad… (all of the seat's roots in one cut). By AI agents, Wed Nov 11 2026. No macro, syntax, notation, axiom, sorry.
-/
import Derived.Test.YtenlnnhhmgjapaaChecked
import GoSem.Claim
import GoSem.ClaimJoined
import GoSem.ClaimMapViews
import Derived.JoinedTies
import Derived.KernelRfl
namespace Go.Proofs.Ytenlnnhhmgjapaa
/- THE CELL 'sum', in the pinned program and in every row, IS THE sha256 OF THE DUMP (.gsa) THAT YtenlnnhhmgjapaaProg.lean LOADS. Nothing in Lean hashes anything: it is a label: what it is worth is what the hold of that sum in a sandbox is worth. -/
noncomputable def Try.pinned : Pinned := { name := "ytenlnnhhmgjapaa", sum := "f6622793d5d5edad3e4a1a20dd27874144790b1769a1aa17e149488750f1383d", checked := Try.checked }
namespace Rows
def none {H : Type} : Left H := { results := [], args := [] }

/-- 'lamplighterlaw06.FifoTells': WHATEVER THE INPUT: true; the input reads as it did. -/
def fifoTellsSpec : ChangeSpec := { name := "fifoTells", fn := fun _ => fun
  | [d1, d2] => { results := [.lit (.bool true)], args := [d1, d2] }
  | _ => none }
def fifoTellsRow : OpenClaim := { program := "ytenlnnhhmgjapaa", sum := "f6622793d5d5edad3e4a1a20dd27874144790b1769a1aa17e149488750f1383d", func := "lamplighter/lamplighterlaw06.FifoTells", spec := "fifoTells", unfollowed := true, recurses := true, apart := false }
def FifoTellsSaid : Prop := fifoTellsRow.holds Try.pinned (OpenSpec.ofChange fifoTellsSpec)

/-- ITS FALSE NEIGHBOUR: 'it returns false'. Refute it at one input. -/
def fifoTellsWrong : ChangeSpec := { name := "fifoTells", fn := fun _ => fun
  | [d1, d2] => { results := [.lit (.bool false)], args := [d1, d2] }
  | _ => none }
def FifoTellsWrongFalsely : Prop := fifoTellsRow.holds Try.pinned (OpenSpec.ofChange fifoTellsWrong)

/-- 'lamplighterlaw07.PersTells': WHATEVER THE INPUT: true; the input reads as it did. -/
def persTellsSpec : ChangeSpec := { name := "persTells", fn := fun _ => fun
  | [d1, d2] => { results := [.lit (.bool true)], args := [d1, d2] }
  | _ => none }
def persTellsRow : OpenClaim := { program := "ytenlnnhhmgjapaa", sum := "f6622793d5d5edad3e4a1a20dd27874144790b1769a1aa17e149488750f1383d", func := "lamplighter/lamplighterlaw07.PersTells", spec := "persTells", unfollowed := true, recurses := true, apart := false }
def PersTellsSaid : Prop := persTellsRow.holds Try.pinned (OpenSpec.ofChange persTellsSpec)

/-- ITS FALSE NEIGHBOUR: 'it returns false'. Refute it at one input. -/
def persTellsWrong : ChangeSpec := { name := "persTells", fn := fun _ => fun
  | [d1, d2] => { results := [.lit (.bool false)], args := [d1, d2] }
  | _ => none }
def PersTellsWrongFalsely : Prop := persTellsRow.holds Try.pinned (OpenSpec.ofChange persTellsWrong)

/-- 'lamplighterlaw16.PatParts': WHATEVER THE INPUT: true; the input reads as it did. -/
def patPartsSpec : ChangeSpec := { name := "patParts", fn := fun _ => fun
  | [d1, d2, d3] => { results := [.lit (.bool true)], args := [d1, d2, d3] }
  | _ => none }
def patPartsRow : OpenClaim := { program := "ytenlnnhhmgjapaa", sum := "f6622793d5d5edad3e4a1a20dd27874144790b1769a1aa17e149488750f1383d", func := "lamplighter/lamplighterlaw16.PatParts", spec := "patParts", unfollowed := true, recurses := true, apart := false }
def PatPartsSaid : Prop := patPartsRow.holds Try.pinned (OpenSpec.ofChange patPartsSpec)

/-- ITS FALSE NEIGHBOUR: 'it returns false'. Refute it at one input. -/
def patPartsWrong : ChangeSpec := { name := "patParts", fn := fun _ => fun
  | [d1, d2, d3] => { results := [.lit (.bool false)], args := [d1, d2, d3] }
  | _ => none }
def PatPartsWrongFalsely : Prop := patPartsRow.holds Try.pinned (OpenSpec.ofChange patPartsWrong)

/-- 'lamplighterlaw16.PatScope': WHATEVER THE INPUT: true; the input reads as it did. -/
def patScopeSpec : ChangeSpec := { name := "patScope", fn := fun _ => fun
  | [d1, d2] => { results := [.lit (.bool true)], args := [d1, d2] }
  | _ => none }
def patScopeRow : OpenClaim := { program := "ytenlnnhhmgjapaa", sum := "f6622793d5d5edad3e4a1a20dd27874144790b1769a1aa17e149488750f1383d", func := "lamplighter/lamplighterlaw16.PatScope", spec := "patScope", unfollowed := true, recurses := true, apart := false }
def PatScopeSaid : Prop := patScopeRow.holds Try.pinned (OpenSpec.ofChange patScopeSpec)

/-- ITS FALSE NEIGHBOUR: 'it returns false'. Refute it at one input. -/
def patScopeWrong : ChangeSpec := { name := "patScope", fn := fun _ => fun
  | [d1, d2] => { results := [.lit (.bool false)], args := [d1, d2] }
  | _ => none }
def PatScopeWrongFalsely : Prop := patScopeRow.holds Try.pinned (OpenSpec.ofChange patScopeWrong)

/-- 'lamplighterlaw03.SchemaNames': WHATEVER THE INPUT: true; the input reads as it did. -/
def schemaNamesSpec : ChangeSpec := { name := "schemaNames", fn := fun _ => fun
  | [d1, d2] => { results := [.lit (.bool true)], args := [d1, d2] }
  | _ => none }
def schemaNamesRow : OpenClaim := { program := "ytenlnnhhmgjapaa", sum := "f6622793d5d5edad3e4a1a20dd27874144790b1769a1aa17e149488750f1383d", func := "lamplighter/lamplighterlaw03.SchemaNames", spec := "schemaNames", unfollowed := true, recurses := true, apart := false }
def SchemaNamesSaid : Prop := schemaNamesRow.holds Try.pinned (OpenSpec.ofChange schemaNamesSpec)

/-- ITS FALSE NEIGHBOUR: 'it returns false'. Refute it at one input. -/
def schemaNamesWrong : ChangeSpec := { name := "schemaNames", fn := fun _ => fun
  | [d1, d2] => { results := [.lit (.bool false)], args := [d1, d2] }
  | _ => none }
def SchemaNamesWrongFalsely : Prop := schemaNamesRow.holds Try.pinned (OpenSpec.ofChange schemaNamesWrong)

/-- 'lamplighterlaw03.SchemaMost': WHATEVER THE INPUT: true; the input reads as it did. -/
def schemaMostSpec : ChangeSpec := { name := "schemaMost", fn := fun _ => fun
  | [d1, d2] => { results := [.lit (.bool true)], args := [d1, d2] }
  | _ => none }
def schemaMostRow : OpenClaim := { program := "ytenlnnhhmgjapaa", sum := "f6622793d5d5edad3e4a1a20dd27874144790b1769a1aa17e149488750f1383d", func := "lamplighter/lamplighterlaw03.SchemaMost", spec := "schemaMost", unfollowed := true, recurses := true, apart := false }
def SchemaMostSaid : Prop := schemaMostRow.holds Try.pinned (OpenSpec.ofChange schemaMostSpec)

/-- ITS FALSE NEIGHBOUR: 'it returns false'. Refute it at one input. -/
def schemaMostWrong : ChangeSpec := { name := "schemaMost", fn := fun _ => fun
  | [d1, d2] => { results := [.lit (.bool false)], args := [d1, d2] }
  | _ => none }
def SchemaMostWrongFalsely : Prop := schemaMostRow.holds Try.pinned (OpenSpec.ofChange schemaMostWrong)

/-- 'lamplighterlaw03.SchemaFinds': WHATEVER THE INPUT: true; the input reads as it did. -/
def schemaFindsSpec : ChangeSpec := { name := "schemaFinds", fn := fun _ => fun
  | [d1, d2] => { results := [.lit (.bool true)], args := [d1, d2] }
  | _ => none }
def schemaFindsRow : OpenClaim := { program := "ytenlnnhhmgjapaa", sum := "f6622793d5d5edad3e4a1a20dd27874144790b1769a1aa17e149488750f1383d", func := "lamplighter/lamplighterlaw03.SchemaFinds", spec := "schemaFinds", unfollowed := true, recurses := true, apart := false }
def SchemaFindsSaid : Prop := schemaFindsRow.holds Try.pinned (OpenSpec.ofChange schemaFindsSpec)

/-- ITS FALSE NEIGHBOUR: 'it returns false'. Refute it at one input. -/
def schemaFindsWrong : ChangeSpec := { name := "schemaFinds", fn := fun _ => fun
  | [d1, d2] => { results := [.lit (.bool false)], args := [d1, d2] }
  | _ => none }
def SchemaFindsWrongFalsely : Prop := schemaFindsRow.holds Try.pinned (OpenSpec.ofChange schemaFindsWrong)

/-- 'lamplighterlaw08.SeqsParts': WHATEVER THE INPUT: true; the input reads as it did. -/
def seqsPartsSpec : ChangeSpec := { name := "seqsParts", fn := fun _ => fun
  | [d1, d2, d3] => { results := [.lit (.bool true)], args := [d1, d2, d3] }
  | _ => none }
def seqsPartsRow : OpenClaim := { program := "ytenlnnhhmgjapaa", sum := "f6622793d5d5edad3e4a1a20dd27874144790b1769a1aa17e149488750f1383d", func := "lamplighter/lamplighterlaw08.SeqsParts", spec := "seqsParts", unfollowed := true, recurses := true, apart := false }
def SeqsPartsSaid : Prop := seqsPartsRow.holds Try.pinned (OpenSpec.ofChange seqsPartsSpec)

/-- ITS FALSE NEIGHBOUR: 'it returns false'. Refute it at one input. -/
def seqsPartsWrong : ChangeSpec := { name := "seqsParts", fn := fun _ => fun
  | [d1, d2, d3] => { results := [.lit (.bool false)], args := [d1, d2, d3] }
  | _ => none }
def SeqsPartsWrongFalsely : Prop := seqsPartsRow.holds Try.pinned (OpenSpec.ofChange seqsPartsWrong)

/-- 'lamplighterlaw08.SeqsNil': WHATEVER THE INPUT: true; the input reads as it did. -/
def seqsNilSpec : ChangeSpec := { name := "seqsNil", fn := fun _ => fun
  | [d] => { results := [.lit (.bool true)], args := [d] }
  | _ => none }
def seqsNilRow : OpenClaim := { program := "ytenlnnhhmgjapaa", sum := "f6622793d5d5edad3e4a1a20dd27874144790b1769a1aa17e149488750f1383d", func := "lamplighter/lamplighterlaw08.SeqsNil", spec := "seqsNil", unfollowed := true, recurses := true, apart := false }
def SeqsNilSaid : Prop := seqsNilRow.holds Try.pinned (OpenSpec.ofChange seqsNilSpec)

/-- ITS FALSE NEIGHBOUR: 'it returns false'. Refute it at one input. -/
def seqsNilWrong : ChangeSpec := { name := "seqsNil", fn := fun _ => fun
  | [d] => { results := [.lit (.bool false)], args := [d] }
  | _ => none }
def SeqsNilWrongFalsely : Prop := seqsNilRow.holds Try.pinned (OpenSpec.ofChange seqsNilWrong)

/-- 'lamplighterlaw08.SeqsEarly': WHATEVER THE INPUT: true; the input reads as it did. -/
def seqsEarlySpec : ChangeSpec := { name := "seqsEarly", fn := fun _ => fun
  | [d1, d2, d3] => { results := [.lit (.bool true)], args := [d1, d2, d3] }
  | _ => none }
def seqsEarlyRow : OpenClaim := { program := "ytenlnnhhmgjapaa", sum := "f6622793d5d5edad3e4a1a20dd27874144790b1769a1aa17e149488750f1383d", func := "lamplighter/lamplighterlaw08.SeqsEarly", spec := "seqsEarly", unfollowed := true, recurses := true, apart := false }
def SeqsEarlySaid : Prop := seqsEarlyRow.holds Try.pinned (OpenSpec.ofChange seqsEarlySpec)

/-- ITS FALSE NEIGHBOUR: 'it returns false'. Refute it at one input. -/
def seqsEarlyWrong : ChangeSpec := { name := "seqsEarly", fn := fun _ => fun
  | [d1, d2, d3] => { results := [.lit (.bool false)], args := [d1, d2, d3] }
  | _ => none }
def SeqsEarlyWrongFalsely : Prop := seqsEarlyRow.holds Try.pinned (OpenSpec.ofChange seqsEarlyWrong)

/- THE SECOND FORM. 'bulk': how many values and letters a reading holds, each counted each time it is reached (what is shared counts as often as it is met; a slice's spare places count too). A statement '..UptoSaid' is the law's where the arguments, and the package variables that the reading takes, are together of bulk at most 1048576: NARROWER than '..Said'. Prove '..Said' where nothing that the law and all that it calls make is longer than what came in: it says more and counts as full. Else prove '..UptoSaid'. A law counts once. -/
mutual
def uptoBulk {H : Type} : DataW H → Nat
  | .lit (.string bytes) => bytes.length + 1
  | .lit _ => 1
  | .nil => 1
  | .ptr d => uptoBulk d + 1
  | .slice elems spare => uptoBulkAll elems + uptoBulkAll spare + 1
  | .agg parts => uptoBulkAll parts + 1
  | .iface _ d => uptoBulk d + 1
  | .map entries => uptoBulkEntries entries + 1
  | .held _ => 1
def uptoBulkAll {H : Type} : List (DataW H) → Nat
  | [] => 0
  | d :: r => uptoBulk d + uptoBulkAll r
def uptoBulkEntries {H : Type} : List (Lit × DataW H) → Nat
  | [] => 0
  | x :: r => uptoBulkEntry x + uptoBulkEntries r
def uptoBulkEntry {H : Type} : Lit × DataW H → Nat
  | (.string bytes, d) => bytes.length + uptoBulk d + 1
  | (_, d) => uptoBulk d + 1
 end
def uptoSmall : (H : Type) → List (DataW H) → Bool := fun _ ds => decide (uptoBulkAll ds ≤ 1048576)
def OpenSpec.upto (s : _root_.Go.ChangeSpec) : _root_.Go.OpenSpec := { _root_.Go.OpenSpec.ofChange s with cond := some uptoSmall }

/-- 'lamplighterlaw06.FifoTells', WHERE WHAT IT READS IS OF BULK AT MOST 1048576: true; the input reads as it did. -/
def fifoTellsUptoRow : OpenClaim := { program := "ytenlnnhhmgjapaa", sum := "f6622793d5d5edad3e4a1a20dd27874144790b1769a1aa17e149488750f1383d", func := "lamplighter/lamplighterlaw06.FifoTells", spec := "fifoTells", unfollowed := true, recurses := true, apart := false, narrowed := true }
def FifoTellsUptoSaid : Prop := fifoTellsUptoRow.holds Try.pinned (OpenSpec.upto fifoTellsSpec)

/-- 'lamplighterlaw07.PersTells', WHERE WHAT IT READS IS OF BULK AT MOST 1048576: true; the input reads as it did. -/
def persTellsUptoRow : OpenClaim := { program := "ytenlnnhhmgjapaa", sum := "f6622793d5d5edad3e4a1a20dd27874144790b1769a1aa17e149488750f1383d", func := "lamplighter/lamplighterlaw07.PersTells", spec := "persTells", unfollowed := true, recurses := true, apart := false, narrowed := true }
def PersTellsUptoSaid : Prop := persTellsUptoRow.holds Try.pinned (OpenSpec.upto persTellsSpec)

/-- 'lamplighterlaw16.PatParts', WHERE WHAT IT READS IS OF BULK AT MOST 1048576: true; the input reads as it did. -/
def patPartsUptoRow : OpenClaim := { program := "ytenlnnhhmgjapaa", sum := "f6622793d5d5edad3e4a1a20dd27874144790b1769a1aa17e149488750f1383d", func := "lamplighter/lamplighterlaw16.PatParts", spec := "patParts", unfollowed := true, recurses := true, apart := false, narrowed := true }
def PatPartsUptoSaid : Prop := patPartsUptoRow.holds Try.pinned (OpenSpec.upto patPartsSpec)

/-- 'lamplighterlaw16.PatScope', WHERE WHAT IT READS IS OF BULK AT MOST 1048576: true; the input reads as it did. -/
def patScopeUptoRow : OpenClaim := { program := "ytenlnnhhmgjapaa", sum := "f6622793d5d5edad3e4a1a20dd27874144790b1769a1aa17e149488750f1383d", func := "lamplighter/lamplighterlaw16.PatScope", spec := "patScope", unfollowed := true, recurses := true, apart := false, narrowed := true }
def PatScopeUptoSaid : Prop := patScopeUptoRow.holds Try.pinned (OpenSpec.upto patScopeSpec)

/-- 'lamplighterlaw03.SchemaNames', WHERE WHAT IT READS IS OF BULK AT MOST 1048576: true; the input reads as it did. -/
def schemaNamesUptoRow : OpenClaim := { program := "ytenlnnhhmgjapaa", sum := "f6622793d5d5edad3e4a1a20dd27874144790b1769a1aa17e149488750f1383d", func := "lamplighter/lamplighterlaw03.SchemaNames", spec := "schemaNames", unfollowed := true, recurses := true, apart := false, narrowed := true }
def SchemaNamesUptoSaid : Prop := schemaNamesUptoRow.holds Try.pinned (OpenSpec.upto schemaNamesSpec)

/-- 'lamplighterlaw03.SchemaMost', WHERE WHAT IT READS IS OF BULK AT MOST 1048576: true; the input reads as it did. -/
def schemaMostUptoRow : OpenClaim := { program := "ytenlnnhhmgjapaa", sum := "f6622793d5d5edad3e4a1a20dd27874144790b1769a1aa17e149488750f1383d", func := "lamplighter/lamplighterlaw03.SchemaMost", spec := "schemaMost", unfollowed := true, recurses := true, apart := false, narrowed := true }
def SchemaMostUptoSaid : Prop := schemaMostUptoRow.holds Try.pinned (OpenSpec.upto schemaMostSpec)

/-- 'lamplighterlaw03.SchemaFinds', WHERE WHAT IT READS IS OF BULK AT MOST 1048576: true; the input reads as it did. -/
def schemaFindsUptoRow : OpenClaim := { program := "ytenlnnhhmgjapaa", sum := "f6622793d5d5edad3e4a1a20dd27874144790b1769a1aa17e149488750f1383d", func := "lamplighter/lamplighterlaw03.SchemaFinds", spec := "schemaFinds", unfollowed := true, recurses := true, apart := false, narrowed := true }
def SchemaFindsUptoSaid : Prop := schemaFindsUptoRow.holds Try.pinned (OpenSpec.upto schemaFindsSpec)

/-- 'lamplighterlaw08.SeqsParts', WHERE WHAT IT READS IS OF BULK AT MOST 1048576: true; the input reads as it did. -/
def seqsPartsUptoRow : OpenClaim := { program := "ytenlnnhhmgjapaa", sum := "f6622793d5d5edad3e4a1a20dd27874144790b1769a1aa17e149488750f1383d", func := "lamplighter/lamplighterlaw08.SeqsParts", spec := "seqsParts", unfollowed := true, recurses := true, apart := false, narrowed := true }
def SeqsPartsUptoSaid : Prop := seqsPartsUptoRow.holds Try.pinned (OpenSpec.upto seqsPartsSpec)

/-- 'lamplighterlaw08.SeqsNil', WHERE WHAT IT READS IS OF BULK AT MOST 1048576: true; the input reads as it did. -/
def seqsNilUptoRow : OpenClaim := { program := "ytenlnnhhmgjapaa", sum := "f6622793d5d5edad3e4a1a20dd27874144790b1769a1aa17e149488750f1383d", func := "lamplighter/lamplighterlaw08.SeqsNil", spec := "seqsNil", unfollowed := true, recurses := true, apart := false, narrowed := true }
def SeqsNilUptoSaid : Prop := seqsNilUptoRow.holds Try.pinned (OpenSpec.upto seqsNilSpec)

/-- 'lamplighterlaw08.SeqsEarly', WHERE WHAT IT READS IS OF BULK AT MOST 1048576: true; the input reads as it did. -/
def seqsEarlyUptoRow : OpenClaim := { program := "ytenlnnhhmgjapaa", sum := "f6622793d5d5edad3e4a1a20dd27874144790b1769a1aa17e149488750f1383d", func := "lamplighter/lamplighterlaw08.SeqsEarly", spec := "seqsEarly", unfollowed := true, recurses := true, apart := false, narrowed := true }
def SeqsEarlyUptoSaid : Prop := seqsEarlyUptoRow.holds Try.pinned (OpenSpec.upto seqsEarlySpec)

end Rows
end Go.Proofs.Ytenlnnhhmgjapaa
