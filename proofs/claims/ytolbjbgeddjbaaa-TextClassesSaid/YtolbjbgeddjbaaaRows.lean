/-
  No cell of these rows narrows 'for every input' (looked for: loops, veiled, ifaces, maps, wideKeys, modest, calm, conditions, laid).
  DERIVED. THE GIVEN ROWS OF THIS SEAT. 6 by the template 'for every input the law returns true; each argument reads behind the call as it read before'; 0 by the template 'total and deterministic' (their statements: YtolbjbgeddjbaaaTotals.lean).
  GIVEN WITH THE SEED: the statements are not yours to turn. If you find one false, say at which input.
  Laid BY PROGRAM, IN A SANDBOX (cutbox-rows.mjs): the forced cells as the released guide's own fill.sh prints them over the translation f08e0e42e4674f91… (all of the seat's roots in one cut). By AI agents, Wed Nov 11 2026. No macro, syntax, notation, axiom, sorry.
-/
import Derived.Test.YtolbjbgeddjbaaaChecked
import GoSem.Claim
import GoSem.ClaimJoined
import GoSem.ClaimMapViews
import Derived.JoinedTies
import Derived.KernelRfl
namespace Go.Proofs.Ytolbjbgeddjbaaa
/- THE CELL 'sum', in the pinned program and in every row, IS THE sha256 OF THE DUMP (.gsa) THAT YtolbjbgeddjbaaaProg.lean LOADS. Nothing in Lean hashes anything: it is a label: what it is worth is what the hold of that sum in a sandbox is worth. -/
noncomputable def Try.pinned : Pinned := { name := "ytolbjbgeddjbaaa", sum := "f08e0e42e4674f91599f15f80bd52c91c7a156389f9cd958aeb1bee8ea7f5799", checked := Try.checked }
namespace Rows
def none {H : Type} : Left H := { results := [], args := [] }

/-- 'lamplighterlaw03.SchemaNames': WHATEVER THE INPUT: true; the input reads as it did. -/
def schemaNamesSpec : ChangeSpec := { name := "schemaNames", fn := fun _ => fun
  | [d1, d2] => { results := [.lit (.bool true)], args := [d1, d2] }
  | _ => none }
def schemaNamesRow : OpenClaim := { program := "ytolbjbgeddjbaaa", sum := "f08e0e42e4674f91599f15f80bd52c91c7a156389f9cd958aeb1bee8ea7f5799", func := "lamplighter/lamplighterlaw03.SchemaNames", spec := "schemaNames", unfollowed := true, recurses := true, apart := false }
def SchemaNamesSaid : Prop := schemaNamesRow.holds Try.pinned (OpenSpec.ofChange schemaNamesSpec)

/-- ITS FALSE NEIGHBOUR: 'it returns false'. Refute it at one input. -/
def schemaNamesWrong : ChangeSpec := { name := "schemaNames", fn := fun _ => fun
  | [d1, d2] => { results := [.lit (.bool false)], args := [d1, d2] }
  | _ => none }
def SchemaNamesWrongFalsely : Prop := schemaNamesRow.holds Try.pinned (OpenSpec.ofChange schemaNamesWrong)

/-- 'lamplighterlaw03.SchemaFinds': WHATEVER THE INPUT: true; the input reads as it did. -/
def schemaFindsSpec : ChangeSpec := { name := "schemaFinds", fn := fun _ => fun
  | [d1, d2] => { results := [.lit (.bool true)], args := [d1, d2] }
  | _ => none }
def schemaFindsRow : OpenClaim := { program := "ytolbjbgeddjbaaa", sum := "f08e0e42e4674f91599f15f80bd52c91c7a156389f9cd958aeb1bee8ea7f5799", func := "lamplighter/lamplighterlaw03.SchemaFinds", spec := "schemaFinds", unfollowed := true, recurses := true, apart := false }
def SchemaFindsSaid : Prop := schemaFindsRow.holds Try.pinned (OpenSpec.ofChange schemaFindsSpec)

/-- ITS FALSE NEIGHBOUR: 'it returns false'. Refute it at one input. -/
def schemaFindsWrong : ChangeSpec := { name := "schemaFinds", fn := fun _ => fun
  | [d1, d2] => { results := [.lit (.bool false)], args := [d1, d2] }
  | _ => none }
def SchemaFindsWrongFalsely : Prop := schemaFindsRow.holds Try.pinned (OpenSpec.ofChange schemaFindsWrong)

/-- 'lamplighterlaw03.SchemaMost': WHATEVER THE INPUT: true; the input reads as it did. -/
def schemaMostSpec : ChangeSpec := { name := "schemaMost", fn := fun _ => fun
  | [d1, d2] => { results := [.lit (.bool true)], args := [d1, d2] }
  | _ => none }
def schemaMostRow : OpenClaim := { program := "ytolbjbgeddjbaaa", sum := "f08e0e42e4674f91599f15f80bd52c91c7a156389f9cd958aeb1bee8ea7f5799", func := "lamplighter/lamplighterlaw03.SchemaMost", spec := "schemaMost", unfollowed := true, recurses := true, apart := false }
def SchemaMostSaid : Prop := schemaMostRow.holds Try.pinned (OpenSpec.ofChange schemaMostSpec)

/-- ITS FALSE NEIGHBOUR: 'it returns false'. Refute it at one input. -/
def schemaMostWrong : ChangeSpec := { name := "schemaMost", fn := fun _ => fun
  | [d1, d2] => { results := [.lit (.bool false)], args := [d1, d2] }
  | _ => none }
def SchemaMostWrongFalsely : Prop := schemaMostRow.holds Try.pinned (OpenSpec.ofChange schemaMostWrong)

/-- 'lamplighterlaw10.TextClasses': WHATEVER THE INPUT: true; the input reads as it did. -/
def textClassesSpec : ChangeSpec := { name := "textClasses", fn := fun _ => fun
  | [d] => { results := [.lit (.bool true)], args := [d] }
  | _ => none }
def textClassesRow : OpenClaim := { program := "ytolbjbgeddjbaaa", sum := "f08e0e42e4674f91599f15f80bd52c91c7a156389f9cd958aeb1bee8ea7f5799", func := "lamplighter/lamplighterlaw10.TextClasses", spec := "textClasses", inPlace := ["internal/bytealg.IndexByteString"], apart := false }
def TextClassesSaid : Prop := textClassesRow.holds Try.pinned (OpenSpec.ofChange textClassesSpec)

/-- ITS FALSE NEIGHBOUR: 'it returns false'. Refute it at one input. -/
def textClassesWrong : ChangeSpec := { name := "textClasses", fn := fun _ => fun
  | [d] => { results := [.lit (.bool false)], args := [d] }
  | _ => none }
def TextClassesWrongFalsely : Prop := textClassesRow.holds Try.pinned (OpenSpec.ofChange textClassesWrong)

/-- 'lamplighterlaw10.TextRuns': WHATEVER THE INPUT: true; the input reads as it did. -/
def textRunsSpec : ChangeSpec := { name := "textRuns", fn := fun _ => fun
  | [d1, d2] => { results := [.lit (.bool true)], args := [d1, d2] }
  | _ => none }
def textRunsRow : OpenClaim := { program := "ytolbjbgeddjbaaa", sum := "f08e0e42e4674f91599f15f80bd52c91c7a156389f9cd958aeb1bee8ea7f5799", func := "lamplighter/lamplighterlaw10.TextRuns", spec := "textRuns", inPlace := ["internal/bytealg.IndexByteString"], apart := false }
def TextRunsSaid : Prop := textRunsRow.holds Try.pinned (OpenSpec.ofChange textRunsSpec)

/-- ITS FALSE NEIGHBOUR: 'it returns false'. Refute it at one input. -/
def textRunsWrong : ChangeSpec := { name := "textRuns", fn := fun _ => fun
  | [d1, d2] => { results := [.lit (.bool false)], args := [d1, d2] }
  | _ => none }
def TextRunsWrongFalsely : Prop := textRunsRow.holds Try.pinned (OpenSpec.ofChange textRunsWrong)

/-- 'lamplighterlaw10.TextQuotes': WHATEVER THE INPUT: true; the input reads as it did. -/
def textQuotesSpec : ChangeSpec := { name := "textQuotes", fn := fun _ => fun
  | [d1, d2] => { results := [.lit (.bool true)], args := [d1, d2] }
  | _ => none }
def textQuotesRow : OpenClaim := { program := "ytolbjbgeddjbaaa", sum := "f08e0e42e4674f91599f15f80bd52c91c7a156389f9cd958aeb1bee8ea7f5799", func := "lamplighter/lamplighterlaw10.TextQuotes", spec := "textQuotes", inPlace := ["internal/bytealg.IndexByteString"], apart := false }
def TextQuotesSaid : Prop := textQuotesRow.holds Try.pinned (OpenSpec.ofChange textQuotesSpec)

/-- ITS FALSE NEIGHBOUR: 'it returns false'. Refute it at one input. -/
def textQuotesWrong : ChangeSpec := { name := "textQuotes", fn := fun _ => fun
  | [d1, d2] => { results := [.lit (.bool false)], args := [d1, d2] }
  | _ => none }
def TextQuotesWrongFalsely : Prop := textQuotesRow.holds Try.pinned (OpenSpec.ofChange textQuotesWrong)

/- THE SECOND FORM. 'bulk': how many values and letters a reading holds, each counted each time it is reached (what is shared counts as often as it is met; a slice's spare places count too). A statement '..UptoSaid' is the law's where the arguments, and the package variables that the reading takes, are together of bulk at most 1048576: NARROWER than '..Said'. Prove '..Said' where nothing that the law and all that it calls make is longer than what came in: it says more and counts as full. Else prove '..UptoSaid'. A law counts once. -/
mutual
def uptoBulk {H : Type} : DataW H → Nat
  | .lit (.string bytes) => bytes.length + 1
  | .lit _ => 1
  | .nil => 1
  | .ptr d => uptoBulk d + 1
  | .slice elems spare => uptoBulkAll elems + uptoBulkAll spare + 1
  | .agg parts => uptoBulkAll parts + 1
  | .iface _ d => uptoBulk d + 1
  | .map entries => uptoBulkEntries entries + 1
  | .held _ => 1
def uptoBulkAll {H : Type} : List (DataW H) → Nat
  | [] => 0
  | d :: r => uptoBulk d + uptoBulkAll r
def uptoBulkEntries {H : Type} : List (Lit × DataW H) → Nat
  | [] => 0
  | x :: r => uptoBulkEntry x + uptoBulkEntries r
def uptoBulkEntry {H : Type} : Lit × DataW H → Nat
  | (.string bytes, d) => bytes.length + uptoBulk d + 1
  | (_, d) => uptoBulk d + 1
 end
def uptoSmall : (H : Type) → List (DataW H) → Bool := fun _ ds => decide (uptoBulkAll ds ≤ 1048576)
def OpenSpec.upto (s : _root_.Go.ChangeSpec) : _root_.Go.OpenSpec := { _root_.Go.OpenSpec.ofChange s with cond := some uptoSmall }

/-- 'lamplighterlaw03.SchemaNames', WHERE WHAT IT READS IS OF BULK AT MOST 1048576: true; the input reads as it did. -/
def schemaNamesUptoRow : OpenClaim := { program := "ytolbjbgeddjbaaa", sum := "f08e0e42e4674f91599f15f80bd52c91c7a156389f9cd958aeb1bee8ea7f5799", func := "lamplighter/lamplighterlaw03.SchemaNames", spec := "schemaNames", unfollowed := true, recurses := true, apart := false, narrowed := true }
def SchemaNamesUptoSaid : Prop := schemaNamesUptoRow.holds Try.pinned (OpenSpec.upto schemaNamesSpec)

/-- 'lamplighterlaw03.SchemaFinds', WHERE WHAT IT READS IS OF BULK AT MOST 1048576: true; the input reads as it did. -/
def schemaFindsUptoRow : OpenClaim := { program := "ytolbjbgeddjbaaa", sum := "f08e0e42e4674f91599f15f80bd52c91c7a156389f9cd958aeb1bee8ea7f5799", func := "lamplighter/lamplighterlaw03.SchemaFinds", spec := "schemaFinds", unfollowed := true, recurses := true, apart := false, narrowed := true }
def SchemaFindsUptoSaid : Prop := schemaFindsUptoRow.holds Try.pinned (OpenSpec.upto schemaFindsSpec)

/-- 'lamplighterlaw03.SchemaMost', WHERE WHAT IT READS IS OF BULK AT MOST 1048576: true; the input reads as it did. -/
def schemaMostUptoRow : OpenClaim := { program := "ytolbjbgeddjbaaa", sum := "f08e0e42e4674f91599f15f80bd52c91c7a156389f9cd958aeb1bee8ea7f5799", func := "lamplighter/lamplighterlaw03.SchemaMost", spec := "schemaMost", unfollowed := true, recurses := true, apart := false, narrowed := true }
def SchemaMostUptoSaid : Prop := schemaMostUptoRow.holds Try.pinned (OpenSpec.upto schemaMostSpec)

/-- 'lamplighterlaw10.TextClasses', WHERE WHAT IT READS IS OF BULK AT MOST 1048576: true; the input reads as it did. -/
def textClassesUptoRow : OpenClaim := { program := "ytolbjbgeddjbaaa", sum := "f08e0e42e4674f91599f15f80bd52c91c7a156389f9cd958aeb1bee8ea7f5799", func := "lamplighter/lamplighterlaw10.TextClasses", spec := "textClasses", inPlace := ["internal/bytealg.IndexByteString"], apart := false, narrowed := true }
def TextClassesUptoSaid : Prop := textClassesUptoRow.holds Try.pinned (OpenSpec.upto textClassesSpec)

/-- 'lamplighterlaw10.TextRuns', WHERE WHAT IT READS IS OF BULK AT MOST 1048576: true; the input reads as it did. -/
def textRunsUptoRow : OpenClaim := { program := "ytolbjbgeddjbaaa", sum := "f08e0e42e4674f91599f15f80bd52c91c7a156389f9cd958aeb1bee8ea7f5799", func := "lamplighter/lamplighterlaw10.TextRuns", spec := "textRuns", inPlace := ["internal/bytealg.IndexByteString"], apart := false, narrowed := true }
def TextRunsUptoSaid : Prop := textRunsUptoRow.holds Try.pinned (OpenSpec.upto textRunsSpec)

/-- 'lamplighterlaw10.TextQuotes', WHERE WHAT IT READS IS OF BULK AT MOST 1048576: true; the input reads as it did. -/
def textQuotesUptoRow : OpenClaim := { program := "ytolbjbgeddjbaaa", sum := "f08e0e42e4674f91599f15f80bd52c91c7a156389f9cd958aeb1bee8ea7f5799", func := "lamplighter/lamplighterlaw10.TextQuotes", spec := "textQuotes", inPlace := ["internal/bytealg.IndexByteString"], apart := false, narrowed := true }
def TextQuotesUptoSaid : Prop := textQuotesUptoRow.holds Try.pinned (OpenSpec.upto textQuotesSpec)

end Rows
end Go.Proofs.Ytolbjbgeddjbaaa
