/- The contract of num.size. -/
import Derived.Test.YtlpkeinablekpaaDoorKit
namespace Go.Proofs.YtlpkeinablekpaaDoor.Num
open Go.RowKit Go.Proofs.YtlpkeinablekpaaDoor

def sizeN (n : Int) : Nat := n.natAbs
theorem size_pos {n : Int} (h : ¬ n < 0) : n = (sizeN n : Int) := by unfold sizeN; omega
theorem size_neg {n : Int} (h : n < 0) : -n = (sizeN n : Int) := by unfold sizeN; omega
theorem wrapneg {n : Int} (h0 : -9223372036854775808 ≤ n) (h1 : n < 0) : IntKind.u64.wrap (-(IntKind.u64.wrap n)) = -n := by simp only [IntKind.wrap_u64]; omega
theorem wrapid {n : Int} (h0 : 0 ≤ n) (h1 : n ≤ 9223372036854775807) : IntKind.u64.wrap n = n := by simp only [IntKind.wrap_u64]; omega
set_option maxHeartbeats 400000 in
theorem size_any (n : Int) (w : World) (h0 : -9223372036854775808 ≤ n) (h1 : n ≤ 9223372036854775807) :
    Calls Tryd.prog 68 #[.int .i64 n] w fun e w' => e = .returned (.int .u64 (sizeN n)) ∧ w = w' := by
  by_cases h : n < 0
  · have e1 := wrapneg h0 h
    have e2 := size_neg h
    go_enter Tryd.func68, Tryd.ntmps68
    go_wp2
    go_ret
    exact ⟨rfl, rfl⟩
  · go_enter Tryd.func68, Tryd.ntmps68
    go_wp2
    go_ret
    exact ⟨ret_int' .u64 (size_pos (by omega)), rfl⟩
end Go.Proofs.YtlpkeinablekpaaDoor.Num
