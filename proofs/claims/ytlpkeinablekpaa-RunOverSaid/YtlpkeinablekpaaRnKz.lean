/- The law RunOver. -/
import Derived.Test.YtlpkeinablekpaaRnKg1
import Derived.Test.YtlpkeinablekpaaRnKg2
namespace Go.Proofs.Ytlpkeinablekpaa.Rn
open Go.RowKit Go.Proofs.Ytlpkeinablekpaa Go.Proofs.Ytlpkeinablekpaa.Ev Go.Proofs.Ytlpkeinablekpaa.Pa Go.Proofs.Ytlpkeinablekpaa.Pq
set_option linter.unusedVariables false
set_option maxRecDepth 100000
theorem law_hid (A0 : Option Addr) (n0 c0 : Nat) (F0 : Nat → Int) (ln : n0 ≤ c0) (lc : c0 ≤ 9223372036854775807) (lb : ∀ k, -9223372036854775808 ≤ F0 k ∧ F0 k ≤ 9223372036854775807) (A1 : Option Addr) (n1 c1 : Nat) (F1 : Nat → Ev.EI) (ln1 : n1 ≤ c1) (lc1 : c1 ≤ 9223372036854775807) (f : Nat → Int) (FB : Hid (∀ k, -9223372036854775808 ≤ f k ∧ f k ≤ 9223372036854775807)) (w : World) (L0 : Hid (Lies w w.heap.size A0 n0 (fun k => .int .i64 (F0 k)))) (L1 : Hid (ELies w w.heap.size A1 n1 F1)) :
    Calls Try.prog 3 #[.slice A0 n0 c0, .slice A1 n1 c1, .agg #[.int .i64 (f 0), .int .i64 (f 1), .int .i64 (f 2)]] w (LawEnd w) :=
  (part_RnK A0 n0 c0 F0 ln lc lb A1 n1 c1 F1 ln1 lc1 f FB w L0 L1).ok (Lib.hid (part_RnK_g1 A0 n0 c0 F0 ln lc lb A1 n1 c1 F1 ln1 lc1 f FB w L0 L1)) (Lib.hid (part_RnK_g2 A0 n0 c0 F0 ln lc lb A1 n1 c1 F1 ln1 lc1 f FB w L0 L1)) (Lib.hid trivial)
theorem law_any (A0 : Option Addr) (n0 c0 : Nat) (F0 : Nat → Int) (ln : n0 ≤ c0) (lc : c0 ≤ 9223372036854775807) (lb : ∀ k, -9223372036854775808 ≤ F0 k ∧ F0 k ≤ 9223372036854775807) (A1 : Option Addr) (n1 c1 : Nat) (F1 : Nat → Ev.EI) (ln1 : n1 ≤ c1) (lc1 : c1 ≤ 9223372036854775807)
    (f : Nat → Int) (fb : ∀ k, -9223372036854775808 ≤ f k ∧ f k ≤ 9223372036854775807) {w : World} (l0 : Lies w w.heap.size A0 n0 (fun k => .int .i64 (F0 k))) (l1 : ELies w w.heap.size A1 n1 F1) :
    Calls Try.prog 3 #[.slice A0 n0 c0, .slice A1 n1 c1, .agg #[.int .i64 (f 0), .int .i64 (f 1), .int .i64 (f 2)]] w (LawEnd w) :=
  law_hid A0 n0 c0 F0 ln lc lb A1 n1 c1 F1 ln1 lc1 f (Lib.hid fb) w (Lib.hid l0) (Lib.hid l1)
end Go.Proofs.Ytlpkeinablekpaa.Rn
