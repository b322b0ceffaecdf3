/-
  No cell of these rows narrows 'for every input' (looked for: loops, veiled, ifaces, maps, wideKeys, modest, calm, conditions, laid).
  DERIVED. THE GIVEN ROWS OF THIS SEAT. 11 by the template 'for every input the law returns true; each argument reads behind the call as it read before'; 0 by the template 'total and deterministic' (their statements: YtopbildpeojgoaaTotals.lean).
  GIVEN WITH THE SEED: the statements are not yours to turn. If you find one false, say at which input.
  Laid BY PROGRAM, IN A SANDBOX (cutbox-rows.mjs): the forced cells as the released guide's own fill.sh prints them over the translation 1158e60cfbdd8d6b… (all of the seat's roots in one cut). By AI agents, Wed Nov 11 2026. No macro, syntax, notation, axiom, sorry.
-/
import Derived.Test.YtopbildpeojgoaaChecked
import GoSem.Claim
import GoSem.ClaimJoined
import GoSem.ClaimMapViews
import Derived.JoinedTies
import Derived.KernelRfl
namespace Go.Proofs.Ytopbildpeojgoaa
/- THE CELL 'sum', in the pinned program and in every row, IS THE sha256 OF THE DUMP (.gsa) THAT YtopbildpeojgoaaProg.lean LOADS. Nothing in Lean hashes anything: it is a label: what it is worth is what the hold of that sum in a sandbox is worth. -/
noncomputable def Try.pinned : Pinned := { name := "ytopbildpeojgoaa", sum := "1158e60cfbdd8d6b4a491cc519c1f1ce7fdddf101eea84ae59d1e6a97cfdf6a4", checked := Try.checked }
namespace Rows
def none {H : Type} : Left H := { results := [], args := [] }

/-- 'lamplighterlaw08.SeqsNil': WHATEVER THE INPUT: true; the input reads as it did. -/
def seqsNilSpec : ChangeSpec := { name := "seqsNil", fn := fun _ => fun
  | [d] => { results := [.lit (.bool true)], args := [d] }
  | _ => none }
def seqsNilRow : OpenClaim := { program := "ytopbildpeojgoaa", sum := "1158e60cfbdd8d6b4a491cc519c1f1ce7fdddf101eea84ae59d1e6a97cfdf6a4", func := "lamplighter/lamplighterlaw08.SeqsNil", spec := "seqsNil", unfollowed := true, recurses := true, plainKeys := false, apart := false }
def SeqsNilSaid : Prop := seqsNilRow.holds Try.pinned (OpenSpec.ofChange seqsNilSpec)

/-- ITS FALSE NEIGHBOUR: 'it returns false'. Refute it at one input. -/
def seqsNilWrong : ChangeSpec := { name := "seqsNil", fn := fun _ => fun
  | [d] => { results := [.lit (.bool false)], args := [d] }
  | _ => none }
def SeqsNilWrongFalsely : Prop := seqsNilRow.holds Try.pinned (OpenSpec.ofChange seqsNilWrong)

/-- 'lamplighterlaw14.EvalMade': WHATEVER THE INPUT: true; the input reads as it did. -/
def evalMadeSpec : ChangeSpec := { name := "evalMade", fn := fun _ => fun
  | [d1, d2, d3] => { results := [.lit (.bool true)], args := [d1, d2, d3] }
  | _ => none }
def evalMadeRow : OpenClaim := { program := "ytopbildpeojgoaa", sum := "1158e60cfbdd8d6b4a491cc519c1f1ce7fdddf101eea84ae59d1e6a97cfdf6a4", func := "lamplighter/lamplighterlaw14.EvalMade", spec := "evalMade", unfollowed := true, recurses := true, plainKeys := false, apart := false }
def EvalMadeSaid : Prop := evalMadeRow.holds Try.pinned (OpenSpec.ofChange evalMadeSpec)

/-- ITS FALSE NEIGHBOUR: 'it returns false'. Refute it at one input. -/
def evalMadeWrong : ChangeSpec := { name := "evalMade", fn := fun _ => fun
  | [d1, d2, d3] => { results := [.lit (.bool false)], args := [d1, d2, d3] }
  | _ => none }
def EvalMadeWrongFalsely : Prop := evalMadeRow.holds Try.pinned (OpenSpec.ofChange evalMadeWrong)

/-- 'lamplighterlaw16.PatScope': WHATEVER THE INPUT: true; the input reads as it did. -/
def patScopeSpec : ChangeSpec := { name := "patScope", fn := fun _ => fun
  | [d1, d2] => { results := [.lit (.bool true)], args := [d1, d2] }
  | _ => none }
def patScopeRow : OpenClaim := { program := "ytopbildpeojgoaa", sum := "1158e60cfbdd8d6b4a491cc519c1f1ce7fdddf101eea84ae59d1e6a97cfdf6a4", func := "lamplighter/lamplighterlaw16.PatScope", spec := "patScope", unfollowed := true, recurses := true, plainKeys := false, apart := false }
def PatScopeSaid : Prop := patScopeRow.holds Try.pinned (OpenSpec.ofChange patScopeSpec)

/-- ITS FALSE NEIGHBOUR: 'it returns false'. Refute it at one input. -/
def patScopeWrong : ChangeSpec := { name := "patScope", fn := fun _ => fun
  | [d1, d2] => { results := [.lit (.bool false)], args := [d1, d2] }
  | _ => none }
def PatScopeWrongFalsely : Prop := patScopeRow.holds Try.pinned (OpenSpec.ofChange patScopeWrong)

/-- 'lamplighterlaw18.CheckMade': WHATEVER THE INPUT: true; the input reads as it did. -/
def checkMadeSpec : ChangeSpec := { name := "checkMade", fn := fun _ => fun
  | [d] => { results := [.lit (.bool true)], args := [d] }
  | _ => none }
def checkMadeRow : OpenClaim := { program := "ytopbildpeojgoaa", sum := "1158e60cfbdd8d6b4a491cc519c1f1ce7fdddf101eea84ae59d1e6a97cfdf6a4", func := "lamplighter/lamplighterlaw18.CheckMade", spec := "checkMade", unfollowed := true, recurses := true, plainKeys := false, apart := false }
def CheckMadeSaid : Prop := checkMadeRow.holds Try.pinned (OpenSpec.ofChange checkMadeSpec)

/-- ITS FALSE NEIGHBOUR: 'it returns false'. Refute it at one input. -/
def checkMadeWrong : ChangeSpec := { name := "checkMade", fn := fun _ => fun
  | [d] => { results := [.lit (.bool false)], args := [d] }
  | _ => none }
def CheckMadeWrongFalsely : Prop := checkMadeRow.holds Try.pinned (OpenSpec.ofChange checkMadeWrong)

/-- 'lamplighterlaw18.CheckBad': WHATEVER THE INPUT: true; the input reads as it did. -/
def checkBadSpec : ChangeSpec := { name := "checkBad", fn := fun _ => fun
  | [d1, d2, d3] => { results := [.lit (.bool true)], args := [d1, d2, d3] }
  | _ => none }
def checkBadRow : OpenClaim := { program := "ytopbildpeojgoaa", sum := "1158e60cfbdd8d6b4a491cc519c1f1ce7fdddf101eea84ae59d1e6a97cfdf6a4", func := "lamplighter/lamplighterlaw18.CheckBad", spec := "checkBad", unfollowed := true, recurses := true, plainKeys := false, apart := false }
def CheckBadSaid : Prop := checkBadRow.holds Try.pinned (OpenSpec.ofChange checkBadSpec)

/-- ITS FALSE NEIGHBOUR: 'it returns false'. Refute it at one input. -/
def checkBadWrong : ChangeSpec := { name := "checkBad", fn := fun _ => fun
  | [d1, d2, d3] => { results := [.lit (.bool false)], args := [d1, d2, d3] }
  | _ => none }
def CheckBadWrongFalsely : Prop := checkBadRow.holds Try.pinned (OpenSpec.ofChange checkBadWrong)

/-- 'lamplighterlaw18.CheckPreds': WHATEVER THE INPUT: true; the input reads as it did. -/
def checkPredsSpec : ChangeSpec := { name := "checkPreds", fn := fun _ => fun
  | [d1, d2] => { results := [.lit (.bool true)], args := [d1, d2] }
  | _ => none }
def checkPredsRow : OpenClaim := { program := "ytopbildpeojgoaa", sum := "1158e60cfbdd8d6b4a491cc519c1f1ce7fdddf101eea84ae59d1e6a97cfdf6a4", func := "lamplighter/lamplighterlaw18.CheckPreds", spec := "checkPreds", unfollowed := true, recurses := true, plainKeys := false, apart := false }
def CheckPredsSaid : Prop := checkPredsRow.holds Try.pinned (OpenSpec.ofChange checkPredsSpec)

/-- ITS FALSE NEIGHBOUR: 'it returns false'. Refute it at one input. -/
def checkPredsWrong : ChangeSpec := { name := "checkPreds", fn := fun _ => fun
  | [d1, d2] => { results := [.lit (.bool false)], args := [d1, d2] }
  | _ => none }
def CheckPredsWrongFalsely : Prop := checkPredsRow.holds Try.pinned (OpenSpec.ofChange checkPredsWrong)

/-- 'lamplighterlaw22.RunOver': WHATEVER THE INPUT: true; the input reads as it did. -/
def runOverSpec : ChangeSpec := { name := "runOver", fn := fun _ => fun
  | [d1, d2, d3] => { results := [.lit (.bool true)], args := [d1, d2, d3] }
  | _ => none }
def runOverRow : OpenClaim := { program := "ytopbildpeojgoaa", sum := "1158e60cfbdd8d6b4a491cc519c1f1ce7fdddf101eea84ae59d1e6a97cfdf6a4", func := "lamplighter/lamplighterlaw22.RunOver", spec := "runOver", unfollowed := true, recurses := true, plainKeys := false, apart := false }
def RunOverSaid : Prop := runOverRow.holds Try.pinned (OpenSpec.ofChange runOverSpec)

/-- ITS FALSE NEIGHBOUR: 'it returns false'. Refute it at one input. -/
def runOverWrong : ChangeSpec := { name := "runOver", fn := fun _ => fun
  | [d1, d2, d3] => { results := [.lit (.bool false)], args := [d1, d2, d3] }
  | _ => none }
def RunOverWrongFalsely : Prop := runOverRow.holds Try.pinned (OpenSpec.ofChange runOverWrong)

/-- 'lamplighterlaw22.RunAgain': WHATEVER THE INPUT: true; the input reads as it did. -/
def runAgainSpec : ChangeSpec := { name := "runAgain", fn := fun _ => fun
  | [d1, d2, d3] => { results := [.lit (.bool true)], args := [d1, d2, d3] }
  | _ => none }
def runAgainRow : OpenClaim := { program := "ytopbildpeojgoaa", sum := "1158e60cfbdd8d6b4a491cc519c1f1ce7fdddf101eea84ae59d1e6a97cfdf6a4", func := "lamplighter/lamplighterlaw22.RunAgain", spec := "runAgain", unfollowed := true, recurses := true, plainKeys := false, apart := false }
def RunAgainSaid : Prop := runAgainRow.holds Try.pinned (OpenSpec.ofChange runAgainSpec)

/-- ITS FALSE NEIGHBOUR: 'it returns false'. Refute it at one input. -/
def runAgainWrong : ChangeSpec := { name := "runAgain", fn := fun _ => fun
  | [d1, d2, d3] => { results := [.lit (.bool false)], args := [d1, d2, d3] }
  | _ => none }
def RunAgainWrongFalsely : Prop := runAgainRow.holds Try.pinned (OpenSpec.ofChange runAgainWrong)

/-- 'lamplighterlaw26.ReorderPlays': WHATEVER THE INPUT: true; the input reads as it did. -/
def reorderPlaysSpec : ChangeSpec := { name := "reorderPlays", fn := fun _ => fun
  | [d1, d2] => { results := [.lit (.bool true)], args := [d1, d2] }
  | _ => none }
def reorderPlaysRow : OpenClaim := { program := "ytopbildpeojgoaa", sum := "1158e60cfbdd8d6b4a491cc519c1f1ce7fdddf101eea84ae59d1e6a97cfdf6a4", func := "lamplighter/lamplighterlaw26.ReorderPlays", spec := "reorderPlays", unfollowed := true, recurses := true, plainKeys := false, apart := false }
def ReorderPlaysSaid : Prop := reorderPlaysRow.holds Try.pinned (OpenSpec.ofChange reorderPlaysSpec)

/-- ITS FALSE NEIGHBOUR: 'it returns false'. Refute it at one input. -/
def reorderPlaysWrong : ChangeSpec := { name := "reorderPlays", fn := fun _ => fun
  | [d1, d2] => { results := [.lit (.bool false)], args := [d1, d2] }
  | _ => none }
def ReorderPlaysWrongFalsely : Prop := reorderPlaysRow.holds Try.pinned (OpenSpec.ofChange reorderPlaysWrong)

/-- 'lamplighterlaw26.ReorderNone': WHATEVER THE INPUT: true; the input reads as it did. -/
def reorderNoneSpec : ChangeSpec := { name := "reorderNone", fn := fun _ => fun
  | [d] => { results := [.lit (.bool true)], args := [d] }
  | _ => none }
def reorderNoneRow : OpenClaim := { program := "ytopbildpeojgoaa", sum := "1158e60cfbdd8d6b4a491cc519c1f1ce7fdddf101eea84ae59d1e6a97cfdf6a4", func := "lamplighter/lamplighterlaw26.ReorderNone", spec := "reorderNone", unfollowed := true, recurses := true, plainKeys := false, apart := false }
def ReorderNoneSaid : Prop := reorderNoneRow.holds Try.pinned (OpenSpec.ofChange reorderNoneSpec)

/-- ITS FALSE NEIGHBOUR: 'it returns false'. Refute it at one input. -/
def reorderNoneWrong : ChangeSpec := { name := "reorderNone", fn := fun _ => fun
  | [d] => { results := [.lit (.bool false)], args := [d] }
  | _ => none }
def ReorderNoneWrongFalsely : Prop := reorderNoneRow.holds Try.pinned (OpenSpec.ofChange reorderNoneWrong)

/-- 'lamplighterlaw47.HistOrder': WHATEVER THE INPUT: true; the input reads as it did. -/
def histOrderSpec : ChangeSpec := { name := "histOrder", fn := fun _ => fun
  | [d1, d2] => { results := [.lit (.bool true)], args := [d1, d2] }
  | _ => none }
def histOrderRow : OpenClaim := { program := "ytopbildpeojgoaa", sum := "1158e60cfbdd8d6b4a491cc519c1f1ce7fdddf101eea84ae59d1e6a97cfdf6a4", func := "lamplighter/lamplighterlaw47.HistOrder", spec := "histOrder", unfollowed := true, recurses := true, plainKeys := false, apart := false }
def HistOrderSaid : Prop := histOrderRow.holds Try.pinned (OpenSpec.ofChange histOrderSpec)

/-- ITS FALSE NEIGHBOUR: 'it returns false'. Refute it at one input. -/
def histOrderWrong : ChangeSpec := { name := "histOrder", fn := fun _ => fun
  | [d1, d2] => { results := [.lit (.bool false)], args := [d1, d2] }
  | _ => none }
def HistOrderWrongFalsely : Prop := histOrderRow.holds Try.pinned (OpenSpec.ofChange histOrderWrong)

/- THE SECOND FORM. 'bulk': how many values and letters a reading holds, each counted each time it is reached (what is shared counts as often as it is met; a slice's spare places count too). A statement '..UptoSaid' is the law's where the arguments, and the package variables that the reading takes, are together of bulk at most 1048576: NARROWER than '..Said'. Prove '..Said' where nothing that the law and all that it calls make is longer than what came in: it says more and counts as full. Else prove '..UptoSaid'. A law counts once. -/
mutual
def uptoBulk {H : Type} : DataW H → Nat
  | .lit (.string bytes) => bytes.length + 1
  | .lit _ => 1
  | .nil => 1
  | .ptr d => uptoBulk d + 1
  | .slice elems spare => uptoBulkAll elems + uptoBulkAll spare + 1
  | .agg parts => uptoBulkAll parts + 1
  | .iface _ d => uptoBulk d + 1
  | .map entries => uptoBulkEntries entries + 1
  | .held _ => 1
def uptoBulkAll {H : Type} : List (DataW H) → Nat
  | [] => 0
  | d :: r => uptoBulk d + uptoBulkAll r
def uptoBulkEntries {H : Type} : List (Lit × DataW H) → Nat
  | [] => 0
  | x :: r => uptoBulkEntry x + uptoBulkEntries r
def uptoBulkEntry {H : Type} : Lit × DataW H → Nat
  | (.string bytes, d) => bytes.length + uptoBulk d + 1
  | (_, d) => uptoBulk d + 1
 end
def uptoSmall : (H : Type) → List (DataW H) → Bool := fun _ ds => decide (uptoBulkAll ds ≤ 1048576)
def OpenSpec.upto (s : _root_.Go.ChangeSpec) : _root_.Go.OpenSpec := { _root_.Go.OpenSpec.ofChange s with cond := some uptoSmall }

/-- 'lamplighterlaw08.SeqsNil', WHERE WHAT IT READS IS OF BULK AT MOST 1048576: true; the input reads as it did. -/
def seqsNilUptoRow : OpenClaim := { program := "ytopbildpeojgoaa", sum := "1158e60cfbdd8d6b4a491cc519c1f1ce7fdddf101eea84ae59d1e6a97cfdf6a4", func := "lamplighter/lamplighterlaw08.SeqsNil", spec := "seqsNil", unfollowed := true, recurses := true, plainKeys := false, apart := false, narrowed := true }
def SeqsNilUptoSaid : Prop := seqsNilUptoRow.holds Try.pinned (OpenSpec.upto seqsNilSpec)

/-- 'lamplighterlaw14.EvalMade', WHERE WHAT IT READS IS OF BULK AT MOST 1048576: true; the input reads as it did. -/
def evalMadeUptoRow : OpenClaim := { program := "ytopbildpeojgoaa", sum := "1158e60cfbdd8d6b4a491cc519c1f1ce7fdddf101eea84ae59d1e6a97cfdf6a4", func := "lamplighter/lamplighterlaw14.EvalMade", spec := "evalMade", unfollowed := true, recurses := true, plainKeys := false, apart := false, narrowed := true }
def EvalMadeUptoSaid : Prop := evalMadeUptoRow.holds Try.pinned (OpenSpec.upto evalMadeSpec)

/-- 'lamplighterlaw16.PatScope', WHERE WHAT IT READS IS OF BULK AT MOST 1048576: true; the input reads as it did. -/
def patScopeUptoRow : OpenClaim := { program := "ytopbildpeojgoaa", sum := "1158e60cfbdd8d6b4a491cc519c1f1ce7fdddf101eea84ae59d1e6a97cfdf6a4", func := "lamplighter/lamplighterlaw16.PatScope", spec := "patScope", unfollowed := true, recurses := true, plainKeys := false, apart := false, narrowed := true }
def PatScopeUptoSaid : Prop := patScopeUptoRow.holds Try.pinned (OpenSpec.upto patScopeSpec)

/-- 'lamplighterlaw18.CheckMade', WHERE WHAT IT READS IS OF BULK AT MOST 1048576: true; the input reads as it did. -/
def checkMadeUptoRow : OpenClaim := { program := "ytopbildpeojgoaa", sum := "1158e60cfbdd8d6b4a491cc519c1f1ce7fdddf101eea84ae59d1e6a97cfdf6a4", func := "lamplighter/lamplighterlaw18.CheckMade", spec := "checkMade", unfollowed := true, recurses := true, plainKeys := false, apart := false, narrowed := true }
def CheckMadeUptoSaid : Prop := checkMadeUptoRow.holds Try.pinned (OpenSpec.upto checkMadeSpec)

/-- 'lamplighterlaw18.CheckBad', WHERE WHAT IT READS IS OF BULK AT MOST 1048576: true; the input reads as it did. -/
def checkBadUptoRow : OpenClaim := { program := "ytopbildpeojgoaa", sum := "1158e60cfbdd8d6b4a491cc519c1f1ce7fdddf101eea84ae59d1e6a97cfdf6a4", func := "lamplighter/lamplighterlaw18.CheckBad", spec := "checkBad", unfollowed := true, recurses := true, plainKeys := false, apart := false, narrowed := true }
def CheckBadUptoSaid : Prop := checkBadUptoRow.holds Try.pinned (OpenSpec.upto checkBadSpec)

/-- 'lamplighterlaw18.CheckPreds', WHERE WHAT IT READS IS OF BULK AT MOST 1048576: true; the input reads as it did. -/
def checkPredsUptoRow : OpenClaim := { program := "ytopbildpeojgoaa", sum := "1158e60cfbdd8d6b4a491cc519c1f1ce7fdddf101eea84ae59d1e6a97cfdf6a4", func := "lamplighter/lamplighterlaw18.CheckPreds", spec := "checkPreds", unfollowed := true, recurses := true, plainKeys := false, apart := false, narrowed := true }
def CheckPredsUptoSaid : Prop := checkPredsUptoRow.holds Try.pinned (OpenSpec.upto checkPredsSpec)

/-- 'lamplighterlaw22.RunOver', WHERE WHAT IT READS IS OF BULK AT MOST 1048576: true; the input reads as it did. -/
def runOverUptoRow : OpenClaim := { program := "ytopbildpeojgoaa", sum := "1158e60cfbdd8d6b4a491cc519c1f1ce7fdddf101eea84ae59d1e6a97cfdf6a4", func := "lamplighter/lamplighterlaw22.RunOver", spec := "runOver", unfollowed := true, recurses := true, plainKeys := false, apart := false, narrowed := true }
def RunOverUptoSaid : Prop := runOverUptoRow.holds Try.pinned (OpenSpec.upto runOverSpec)

/-- 'lamplighterlaw22.RunAgain', WHERE WHAT IT READS IS OF BULK AT MOST 1048576: true; the input reads as it did. -/
def runAgainUptoRow : OpenClaim := { program := "ytopbildpeojgoaa", sum := "1158e60cfbdd8d6b4a491cc519c1f1ce7fdddf101eea84ae59d1e6a97cfdf6a4", func := "lamplighter/lamplighterlaw22.RunAgain", spec := "runAgain", unfollowed := true, recurses := true, plainKeys := false, apart := false, narrowed := true }
def RunAgainUptoSaid : Prop := runAgainUptoRow.holds Try.pinned (OpenSpec.upto runAgainSpec)

/-- 'lamplighterlaw26.ReorderPlays', WHERE WHAT IT READS IS OF BULK AT MOST 1048576: true; the input reads as it did. -/
def reorderPlaysUptoRow : OpenClaim := { program := "ytopbildpeojgoaa", sum := "1158e60cfbdd8d6b4a491cc519c1f1ce7fdddf101eea84ae59d1e6a97cfdf6a4", func := "lamplighter/lamplighterlaw26.ReorderPlays", spec := "reorderPlays", unfollowed := true, recurses := true, plainKeys := false, apart := false, narrowed := true }
def ReorderPlaysUptoSaid : Prop := reorderPlaysUptoRow.holds Try.pinned (OpenSpec.upto reorderPlaysSpec)

/-- 'lamplighterlaw26.ReorderNone', WHERE WHAT IT READS IS OF BULK AT MOST 1048576: true; the input reads as it did. -/
def reorderNoneUptoRow : OpenClaim := { program := "ytopbildpeojgoaa", sum := "1158e60cfbdd8d6b4a491cc519c1f1ce7fdddf101eea84ae59d1e6a97cfdf6a4", func := "lamplighter/lamplighterlaw26.ReorderNone", spec := "reorderNone", unfollowed := true, recurses := true, plainKeys := false, apart := false, narrowed := true }
def ReorderNoneUptoSaid : Prop := reorderNoneUptoRow.holds Try.pinned (OpenSpec.upto reorderNoneSpec)

/-- 'lamplighterlaw47.HistOrder', WHERE WHAT IT READS IS OF BULK AT MOST 1048576: true; the input reads as it did. -/
def histOrderUptoRow : OpenClaim := { program := "ytopbildpeojgoaa", sum := "1158e60cfbdd8d6b4a491cc519c1f1ce7fdddf101eea84ae59d1e6a97cfdf6a4", func := "lamplighter/lamplighterlaw47.HistOrder", spec := "histOrder", unfollowed := true, recurses := true, plainKeys := false, apart := false, narrowed := true }
def HistOrderUptoSaid : Prop := histOrderUptoRow.holds Try.pinned (OpenSpec.upto histOrderSpec)

end Rows
end Go.Proofs.Ytopbildpeojgoaa
