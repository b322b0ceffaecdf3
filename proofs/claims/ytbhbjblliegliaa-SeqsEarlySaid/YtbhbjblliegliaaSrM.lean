/- SeqsEarly's law, by its arguments. -/
import Derived.Test.YtbhbjblliegliaaSrL
namespace Go.Proofs.Ytbhbjblliegliaa.Sr
open Go.RowKit Go.Proofs.Ytbhbjblliegliaa Go.Proofs.Ytbhbjblliegliaa.Sq
set_option linter.unusedVariables false
theorem early_any (A0 : Option Addr) (n0 c0 : Nat) (f0 : Nat → Int) (ln0 : n0 ≤ c0) (lc0 : c0 ≤ 9223372036854775807) (lb0 : ∀ k, -9223372036854775808 ≤ f0 k ∧ f0 k ≤ 9223372036854775807) {w : World} (ll0 : Lies w w.heap.size A0 n0 (fun k => .int .i64 (f0 k)))
    (A1 : Option Addr) (n1 c1 : Nat) (f1 : Nat → Int) (ln1 : n1 ≤ c1) (lc1 : c1 ≤ 9223372036854775807) (lb1 : ∀ k, -9223372036854775808 ≤ f1 k ∧ f1 k ≤ 9223372036854775807) (ll1 : Lies w w.heap.size A1 n1 (fun k => .int .i64 (f1 k))) (a2 : Int) (w2 : -9223372036854775808 ≤ a2 ∧ a2 ≤ 9223372036854775807) :
    Calls Try.prog 4 #[.slice A0 n0 c0, .slice A1 n1 c1, .int .i64 a2] w fun e w' => e = .returned (.bool true) ∧ Below w.heap.size w w' :=
  callsIn_wide.1 (early_law A0 A1 n0 n1 c0 c1 _ _ ln0 lc0 ln1 lc1 a2 w2 w (Lib.hid (LI.of_lies ln0 lc0 ll0)) (Lib.hid (LI.of_lies ln1 lc1 ll1)))
end Go.Proofs.Ytbhbjblliegliaa.Sr
