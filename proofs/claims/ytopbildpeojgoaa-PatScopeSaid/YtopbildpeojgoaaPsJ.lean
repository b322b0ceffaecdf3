/- The law PatScope, whatever comes in. -/
import Derived.Test.YtopbildpeojgoaaPsI
namespace Go.Proofs.Ytopbildpeojgoaa.Ps
open Go.RowKit Go.Proofs.Ytopbildpeojgoaa Go.Proofs.Ytopbildpeojgoaa.Sch Go.Proofs.Ytopbildpeojgoaa.Ty Go.Proofs.Ytopbildpeojgoaa.Ck Go.Proofs.Ytopbildpeojgoaa.Pc
set_option linter.unusedVariables false
theorem scope_law2 (A : Option Addr) (n c0 : Nat) (f : Nat → Int) (ln : n ≤ c0) (lc : c0 ≤ 9223372036854775807) (lb : ∀ k, -9223372036854775808 ≤ f k ∧ f k ≤ 9223372036854775807) {w : World} (ll : Lies w w.heap.size A n (fun k => .int .i64 (f k))) (at' : Int) (wa : (Lit.int .i64 at').wf = true) :
    Calls Try.prog 5 #[.slice A n c0, .int .i64 at'] w fun e w' => e = .returned (.bool true) ∧ Below w.heap.size w w' :=
  scope_law A n c0 f ln lc lb ll at' (at' % 256) (and255p at') (by omega) (by omega)
end Go.Proofs.Ytopbildpeojgoaa.Ps
