/-
  No cell of these rows narrows 'for every input' (looked for: loops, veiled, ifaces, maps, wideKeys, modest, calm, conditions, laid).
  DERIVED. THE GIVEN ROWS OF THIS SEAT. 3 by the template 'for every input the law returns true; each argument reads behind the call as it read before'; 0 by the template 'total and deterministic' (their statements: YtnibmfijkbfaeaaTotals.lean).
  GIVEN WITH THE SEED: the statements are not yours to turn. If you find one false, say at which input.
  Laid BY PROGRAM, IN A SANDBOX (cutbox-rows.mjs): the forced cells as the released guide's own fill.sh prints them over the translation 0e931af7c08152f6… (all of the seat's roots in one cut). By AI agents, Wed Nov 11 2026. No macro, syntax, notation, axiom, sorry.
-/
import Derived.Test.YtnibmfijkbfaeaaChecked
import GoSem.Claim
import GoSem.ClaimJoined
import GoSem.ClaimMapViews
import Derived.JoinedTies
import Derived.KernelRfl
namespace Go.Proofs.Ytnibmfijkbfaeaa
/- THE CELL 'sum', in the pinned program and in every row, IS THE sha256 OF THE DUMP (.gsa) THAT YtnibmfijkbfaeaaProg.lean LOADS. Nothing in Lean hashes anything: it is a label: what it is worth is what the hold of that sum in a sandbox is worth. -/
noncomputable def Try.pinned : Pinned := { name := "ytnibmfijkbfaeaa", sum := "0e931af7c08152f62e7975d09c04b1ca18e6b757f7df2c5b07de5450d491c148", checked := Try.checked }
namespace Rows
def none {H : Type} : Left H := { results := [], args := [] }

/-- 'lamplighterlaw09.OmapPlays': WHATEVER THE INPUT: true; the input reads as it did. -/
def omapPlaysSpec : ChangeSpec := { name := "omapPlays", fn := fun _ => fun
  | [d1, d2, d3] => { results := [.lit (.bool true)], args := [d1, d2, d3] }
  | _ => none }
def omapPlaysRow : OpenClaim := { program := "ytnibmfijkbfaeaa", sum := "0e931af7c08152f62e7975d09c04b1ca18e6b757f7df2c5b07de5450d491c148", func := "lamplighter/lamplighterlaw09.OmapPlays", spec := "omapPlays", unfollowed := true, recurses := true, apart := false }
def OmapPlaysSaid : Prop := omapPlaysRow.holds Try.pinned (OpenSpec.ofChange omapPlaysSpec)

/-- ITS FALSE NEIGHBOUR: 'it returns false'. Refute it at one input. -/
def omapPlaysWrong : ChangeSpec := { name := "omapPlays", fn := fun _ => fun
  | [d1, d2, d3] => { results := [.lit (.bool false)], args := [d1, d2, d3] }
  | _ => none }
def OmapPlaysWrongFalsely : Prop := omapPlaysRow.holds Try.pinned (OpenSpec.ofChange omapPlaysWrong)

/-- 'lamplighterlaw09.OmapTells': WHATEVER THE INPUT: true; the input reads as it did. -/
def omapTellsSpec : ChangeSpec := { name := "omapTells", fn := fun _ => fun
  | [d1, d2, d3] => { results := [.lit (.bool true)], args := [d1, d2, d3] }
  | _ => none }
def omapTellsRow : OpenClaim := { program := "ytnibmfijkbfaeaa", sum := "0e931af7c08152f62e7975d09c04b1ca18e6b757f7df2c5b07de5450d491c148", func := "lamplighter/lamplighterlaw09.OmapTells", spec := "omapTells", unfollowed := true, recurses := true, apart := false }
def OmapTellsSaid : Prop := omapTellsRow.holds Try.pinned (OpenSpec.ofChange omapTellsSpec)

/-- ITS FALSE NEIGHBOUR: 'it returns false'. Refute it at one input. -/
def omapTellsWrong : ChangeSpec := { name := "omapTells", fn := fun _ => fun
  | [d1, d2, d3] => { results := [.lit (.bool false)], args := [d1, d2, d3] }
  | _ => none }
def OmapTellsWrongFalsely : Prop := omapTellsRow.holds Try.pinned (OpenSpec.ofChange omapTellsWrong)

/-- 'lamplighterlaw09.OmapTexts': WHATEVER THE INPUT: true; the input reads as it did. -/
def omapTextsSpec : ChangeSpec := { name := "omapTexts", fn := fun _ => fun
  | [d] => { results := [.lit (.bool true)], args := [d] }
  | _ => none }
def omapTextsRow : OpenClaim := { program := "ytnibmfijkbfaeaa", sum := "0e931af7c08152f62e7975d09c04b1ca18e6b757f7df2c5b07de5450d491c148", func := "lamplighter/lamplighterlaw09.OmapTexts", spec := "omapTexts", unfollowed := true, recurses := true, apart := false }
def OmapTextsSaid : Prop := omapTextsRow.holds Try.pinned (OpenSpec.ofChange omapTextsSpec)

/-- ITS FALSE NEIGHBOUR: 'it returns false'. Refute it at one input. -/
def omapTextsWrong : ChangeSpec := { name := "omapTexts", fn := fun _ => fun
  | [d] => { results := [.lit (.bool false)], args := [d] }
  | _ => none }
def OmapTextsWrongFalsely : Prop := omapTextsRow.holds Try.pinned (OpenSpec.ofChange omapTextsWrong)

/- THE SECOND FORM. 'bulk': how many values and letters a reading holds, each counted each time it is reached (what is shared counts as often as it is met; a slice's spare places count too). A statement '..UptoSaid' is the law's where the arguments, and the package variables that the reading takes, are together of bulk at most 1048576: NARROWER than '..Said'. Prove '..Said' where nothing that the law and all that it calls make is longer than what came in: it says more and counts as full. Else prove '..UptoSaid'. A law counts once. -/
mutual
def uptoBulk {H : Type} : DataW H → Nat
  | .lit (.string bytes) => bytes.length + 1
  | .lit _ => 1
  | .nil => 1
  | .ptr d => uptoBulk d + 1
  | .slice elems spare => uptoBulkAll elems + uptoBulkAll spare + 1
  | .agg parts => uptoBulkAll parts + 1
  | .iface _ d => uptoBulk d + 1
  | .map entries => uptoBulkEntries entries + 1
  | .held _ => 1
def uptoBulkAll {H : Type} : List (DataW H) → Nat
  | [] => 0
  | d :: r => uptoBulk d + uptoBulkAll r
def uptoBulkEntries {H : Type} : List (Lit × DataW H) → Nat
  | [] => 0
  | x :: r => uptoBulkEntry x + uptoBulkEntries r
def uptoBulkEntry {H : Type} : Lit × DataW H → Nat
  | (.string bytes, d) => bytes.length + uptoBulk d + 1
  | (_, d) => uptoBulk d + 1
 end
def uptoSmall : (H : Type) → List (DataW H) → Bool := fun _ ds => decide (uptoBulkAll ds ≤ 1048576)
def OpenSpec.upto (s : _root_.Go.ChangeSpec) : _root_.Go.OpenSpec := { _root_.Go.OpenSpec.ofChange s with cond := some uptoSmall }

/-- 'lamplighterlaw09.OmapPlays', WHERE WHAT IT READS IS OF BULK AT MOST 1048576: true; the input reads as it did. -/
def omapPlaysUptoRow : OpenClaim := { program := "ytnibmfijkbfaeaa", sum := "0e931af7c08152f62e7975d09c04b1ca18e6b757f7df2c5b07de5450d491c148", func := "lamplighter/lamplighterlaw09.OmapPlays", spec := "omapPlays", unfollowed := true, recurses := true, apart := false, narrowed := true }
def OmapPlaysUptoSaid : Prop := omapPlaysUptoRow.holds Try.pinned (OpenSpec.upto omapPlaysSpec)

/-- 'lamplighterlaw09.OmapTells', WHERE WHAT IT READS IS OF BULK AT MOST 1048576: true; the input reads as it did. -/
def omapTellsUptoRow : OpenClaim := { program := "ytnibmfijkbfaeaa", sum := "0e931af7c08152f62e7975d09c04b1ca18e6b757f7df2c5b07de5450d491c148", func := "lamplighter/lamplighterlaw09.OmapTells", spec := "omapTells", unfollowed := true, recurses := true, apart := false, narrowed := true }
def OmapTellsUptoSaid : Prop := omapTellsUptoRow.holds Try.pinned (OpenSpec.upto omapTellsSpec)

/-- 'lamplighterlaw09.OmapTexts', WHERE WHAT IT READS IS OF BULK AT MOST 1048576: true; the input reads as it did. -/
def omapTextsUptoRow : OpenClaim := { program := "ytnibmfijkbfaeaa", sum := "0e931af7c08152f62e7975d09c04b1ca18e6b757f7df2c5b07de5450d491c148", func := "lamplighter/lamplighterlaw09.OmapTexts", spec := "omapTexts", unfollowed := true, recurses := true, apart := false, narrowed := true }
def OmapTextsUptoSaid : Prop := omapTextsUptoRow.holds Try.pinned (OpenSpec.upto omapTextsSpec)

end Rows
end Go.Proofs.Ytnibmfijkbfaeaa
