/- The law RunAgain. -/
import Derived.Test.YtaimbkikiokenaaRaFg1
import Derived.Test.YtaimbkikiokenaaRaFg2
namespace Go.Proofs.Ytaimbkikiokenaa.Rn
open Go.RowKit Go.Proofs.Ytaimbkikiokenaa Go.Proofs.Ytaimbkikiokenaa.Ev Go.Proofs.Ytaimbkikiokenaa.Pa Go.Proofs.Ytaimbkikiokenaa.Pq
set_option linter.unusedVariables false
set_option maxRecDepth 100000
theorem again_hid (A0 : Option Addr) (n0 c0 : Nat) (F0 : Nat → Int) (ln : n0 ≤ c0) (lc : c0 ≤ 9223372036854775807) (lb : ∀ k, -9223372036854775808 ≤ F0 k ∧ F0 k ≤ 9223372036854775807) (A1 : Option Addr) (n1 c1 : Nat) (F1 : Nat → Ev.EI) (ln1 : n1 ≤ c1) (lc1 : c1 ≤ 9223372036854775807) (A2 : Option Addr) (n2 c2 : Nat) (F2 : Nat → Int) (ln2 : n2 ≤ c2) (lc2 : c2 ≤ 9223372036854775807) (FB : Hid (∀ k, -9223372036854775808 ≤ F2 k ∧ F2 k ≤ 9223372036854775807)) (w : World) (L0 : Hid (Lies w w.heap.size A0 n0 (fun k => .int .i64 (F0 k)))) (L1 : Hid (ELies w w.heap.size A1 n1 F1)) (L2 : Hid (Lies w w.heap.size A2 n2 (fun k => .int .i64 (F2 k)))) :
    Calls Try.prog 5 #[.slice A0 n0 c0, .slice A1 n1 c1, .slice A2 n2 c2] w fun e w' => e = .returned (.bool true) ∧ Below w.heap.size w w' :=
  (part_RaF A0 n0 c0 F0 ln lc lb A1 n1 c1 F1 ln1 lc1 A2 n2 c2 F2 ln2 lc2 FB w L0 L1 L2).ok (Lib.hid (part_RaF_g1 A0 n0 c0 F0 ln lc lb A1 n1 c1 F1 ln1 lc1 A2 n2 c2 F2 ln2 lc2 FB w L0 L1 L2)) (Lib.hid (part_RaF_g2 A0 n0 c0 F0 ln lc lb A1 n1 c1 F1 ln1 lc1 A2 n2 c2 F2 ln2 lc2 FB w L0 L1 L2)) (Lib.hid trivial)
end Go.Proofs.Ytaimbkikiokenaa.Rn
