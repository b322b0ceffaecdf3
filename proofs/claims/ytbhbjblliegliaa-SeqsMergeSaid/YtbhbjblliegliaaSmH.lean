/- SeqsMerge's law, by its arguments. -/
import Derived.Test.YtbhbjblliegliaaSmG
namespace Go.Proofs.Ytbhbjblliegliaa.Sm
open Go.RowKit Go.Proofs.Ytbhbjblliegliaa
set_option linter.unusedVariables false
theorem merge_any (A0 : Option Addr) (n0 c0 : Nat) (f0 : Nat → Int) (ln0 : n0 ≤ c0) (lc0 : c0 ≤ 9223372036854775807) (lb0 : ∀ k, -9223372036854775808 ≤ f0 k ∧ f0 k ≤ 9223372036854775807) {w : World} (ll0 : Lies w w.heap.size A0 n0 (fun k => .int .i64 (f0 k)))
    (A1 : Option Addr) (n1 c1 : Nat) (f1 : Nat → Int) (ln1 : n1 ≤ c1) (lc1 : c1 ≤ 9223372036854775807) (lb1 : ∀ k, -9223372036854775808 ≤ f1 k ∧ f1 k ≤ 9223372036854775807) (ll1 : Lies w w.heap.size A1 n1 (fun k => .int .i64 (f1 k)))
    (A2 : Option Addr) (n2 c2 : Nat) (f2 : Nat → Int) (ln2 : n2 ≤ c2) (lc2 : c2 ≤ 9223372036854775807) (lb2 : ∀ k, -9223372036854775808 ≤ f2 k ∧ f2 k ≤ 9223372036854775807) (ll2 : Lies w w.heap.size A2 n2 (fun k => .int .i64 (f2 k))) :
    Calls Try.prog 6 #[.slice A0 n0 c0, .slice A1 n1 c1, .slice A2 n2 c2] w fun e w' => e = .returned (.bool true) ∧ Below w.heap.size w w' :=
  merge_law A0 A1 A2 n0 n1 n2 c0 c1 c2 f0 f1 f2 ln0 lc0 ln1 lc1 ln2 lc2 w (Lib.hid ll0) (Lib.hid ll1) (Lib.hid ll2)
end Go.Proofs.Ytbhbjblliegliaa.Sm
