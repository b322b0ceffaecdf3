/- SeqsLists' law, by its arguments. -/
import Derived.Test.YtkklceblojcbkaaSrU
namespace Go.Proofs.Ytkklceblojcbkaa.Sr
open Go.RowKit Go.Proofs.Ytkklceblojcbkaa Go.Proofs.Ytkklceblojcbkaa.Sq
set_option linter.unusedVariables false
theorem lists_any (A0 : Option Addr) (n0 c0 : Nat) (f0 : Nat → Int) (ln0 : n0 ≤ c0) (lc0 : c0 ≤ 9223372036854775807) (lb0 : ∀ k, -9223372036854775808 ≤ f0 k ∧ f0 k ≤ 9223372036854775807) {w : World} (ll0 : Lies w w.heap.size A0 n0 (fun k => .int .i64 (f0 k)))
    (a1 : Int) (w1 : -9223372036854775808 ≤ a1 ∧ a1 ≤ 9223372036854775807) :
    Calls Try.prog 4 #[.slice A0 n0 c0, .int .i64 a1] w fun e w' => e = .returned (.bool true) ∧ Below w.heap.size w w' :=
  callsIn_wide.1 (lists_law A0 n0 c0 _ ln0 lc0 a1 w1 w (Lib.hid (LI.of_lies ln0 lc0 ll0)))
end Go.Proofs.Ytkklceblojcbkaa.Sr
