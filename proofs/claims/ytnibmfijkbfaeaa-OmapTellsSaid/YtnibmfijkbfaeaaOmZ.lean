/- OmapTells' law, by its arguments. -/
import Derived.Test.YtnibmfijkbfaeaaOmI
namespace Go.Proofs.Ytnibmfijkbfaeaa.Om
open Go.RowKit Go.Proofs.Ytnibmfijkbfaeaa
set_option linter.unusedVariables false
theorem tells_any (A0 : Option Addr) (n0 c0 : Nat) (f0 : Nat → Int) (ln0 : n0 ≤ c0) (lc0 : c0 ≤ 9223372036854775807) (lb0 : ∀ k, -9223372036854775808 ≤ f0 k ∧ f0 k ≤ 9223372036854775807) {w : World} (ll0 : Lies w w.heap.size A0 n0 (fun k => .int .i64 (f0 k)))
    (a1 : Int) (w1 : -9223372036854775808 ≤ a1 ∧ a1 ≤ 9223372036854775807) (a2 : Int) (w2 : -9223372036854775808 ≤ a2 ∧ a2 ≤ 9223372036854775807) :
    Calls Try.prog 4 #[.slice A0 n0 c0, .int .i64 a1, .int .i64 a2] w fun e w' => e = .returned (.bool true) ∧ Below w.heap.size w w' :=
  callsIn_wide.1 (tells_law A0 n0 c0 f0 ln0 lc0 a1 a2 w ll0)
end Go.Proofs.Ytnibmfijkbfaeaa.Om
