/- The law NfaMoves, as its frame hands the arguments over. -/
import Derived.Test.YtjciilnbcmaikaaNfL
import Derived.ProofKit
import Derived.OpenShut
namespace Go.Proofs.Ytjciilnbcmaikaa.Nf
open Go.RowKit Go.Proofs.Ytjciilnbcmaikaa Go.Proofs.Ytjciilnbcmaikaa.Pa
open Go.ChangeShapes Go.WideShapes in
theorem moves_law2 (A : Option Addr) (m c0 : Nat) (F : Nat → Int) (ln : m ≤ c0) (lc : c0 ≤ 9223372036854775807) (lb : ∀ k, -9223372036854775808 ≤ F k ∧ F k ≤ 9223372036854775807) {w : World} (lies : Lies w w.heap.size A m (fun k => .int .i64 (F k)))
    (k : Int) (wa : (Lit.int .i64 k).wf = true) :
    Calls Try.prog 10 #[.slice A m c0, .int .i64 k] w fun e w' => e = .returned (.bool true) ∧ Below w.heap.size w w' :=
  moves_law A m c0 F ln lc lb w lies k (bounds_i64 wa)
end Go.Proofs.Ytjciilnbcmaikaa.Nf
