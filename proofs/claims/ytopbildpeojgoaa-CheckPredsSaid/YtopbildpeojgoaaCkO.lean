/- The law CheckPreds, whatever comes in. -/
import Derived.Test.YtopbildpeojgoaaCkJ
import Derived.Test.YtopbildpeojgoaaCkK
import Derived.Test.YtopbildpeojgoaaCkL
import Derived.Test.YtopbildpeojgoaaCkM
import Derived.Test.YtopbildpeojgoaaCkN
namespace Go.Proofs.Ytopbildpeojgoaa.Ck
open Go.RowKit Go.Proofs.Ytopbildpeojgoaa Go.Proofs.Ytopbildpeojgoaa.Sch Go.Proofs.Ytopbildpeojgoaa.Ty
set_option linter.unusedVariables false
set_option maxRecDepth 100000
theorem and1c (a : Int) : bits .and .i64 a 1 = a % 2 := by
  have hm : (BitVec.ofInt 64 1).toNat = 2 ^ 1 - 1 := by decide
  have key : (BitVec.ofInt 64 a &&& BitVec.ofInt 64 1).toNat = (a % ((2 ^ 64 : Nat) : Int)).toNat % 2 ^ 1 := by
    rw [BitVec.toNat_and, BitVec.toNat_ofInt, hm, Nat.and_two_pow_sub_one_eq_mod]
  show IntKind.i64.wrap ((BitVec.ofInt 64 a &&& BitVec.ofInt 64 1).toNat : Nat) = a % 2
  rw [key, IntKind.wrap_i64]
  omega
theorem preds_law (kind : Int) (wk : (Lit.int .i64 kind).wf = true) (n : Int) (wn : (Lit.int .i64 n).wf = true) {w : World} :
    Calls Try.prog 8 #[.int .i64 kind, .int .i64 n] w fun e w' => e = .returned (.bool true) ∧ Below w.heap.size w w' := by
  obtain ⟨i, hi, hi4⟩ : ∃ i : Int, bits .and .i64 kind 3 = i ∧ (i = 0 ∨ i = 1 ∨ i = 2 ∨ i = 3) := ⟨kind % 4, by rw [and3], by omega⟩
  obtain ⟨j, hj, hj4⟩ : ∃ j : Int, bits .and .i64 (kind / 4) 3 = j ∧ (j = 0 ∨ j = 1 ∨ j = 2 ∨ j = 3) := ⟨kind / 4 % 4, by rw [and3], by omega⟩
  obtain ⟨q, hq, hq2⟩ : ∃ q : Int, bits .and .i64 n 1 = q ∧ (q = 0 ∨ q = 1) := ⟨n % 2, by rw [and1c], by omega⟩
  have hm : 1 + q = 1 ∨ 1 + q = 2 := by omega
  have hw : IntKind.i64.wrap (1 + q) = 1 + q := by rw [IntKind.wrap_i64]; omega
  rcases hi4 with rfl | rfl | rfl | rfl
  · rcases hq2 with rfl | rfl
    · rcases hj4 with rfl | rfl | rfl | rfl
      · exact preds_0_0_0 kind n hi hj hq _ rfl _ rfl
      · exact preds_0_1_0 kind n hi hj hq _ rfl _ rfl
      · exact preds_0_2_0 kind n hi hj hq _ rfl _ rfl
      · exact preds_0_3_0 kind n hi hj hq _ rfl _ rfl
    · rcases hj4 with rfl | rfl | rfl | rfl
      · exact preds_0_0_1 kind n hi hj hq _ rfl _ rfl
      · exact preds_0_1_1 kind n hi hj hq _ rfl _ rfl
      · exact preds_0_2_1 kind n hi hj hq _ rfl _ rfl
      · exact preds_0_3_1 kind n hi hj hq _ rfl _ rfl
  · rcases hj4 with rfl | rfl | rfl | rfl
    · exact preds_1_0 kind n hi hj _ q hm hq hw rfl _ rfl _ rfl
    · exact preds_1_1 kind n hi hj _ q hm hq hw rfl _ rfl _ rfl
    · exact preds_1_2 kind n hi hj _ q hm hq hw rfl _ rfl _ rfl
    · exact preds_1_3 kind n hi hj _ q hm hq hw rfl _ rfl _ rfl
  · rcases hj4 with rfl | rfl | rfl | rfl
    · exact preds_2_0 kind n hi hj _ q hm hq hw rfl _ rfl _ rfl
    · exact preds_2_1 kind n hi hj _ q hm hq hw rfl _ rfl _ rfl
    · exact preds_2_2 kind n hi hj _ q hm hq hw rfl _ rfl _ rfl
    · exact preds_2_3 kind n hi hj _ q hm hq hw rfl _ rfl _ rfl
  · rcases hj4 with rfl | rfl | rfl | rfl
    · exact preds_3_0 kind n hi hj _ q hm hq hw rfl _ rfl _ rfl
    · exact preds_3_1 kind n hi hj _ q hm hq hw rfl _ rfl _ rfl
    · exact preds_3_2 kind n hi hj _ q hm hq hw rfl _ rfl _ rfl
    · exact preds_3_3 kind n hi hj _ q hm hq hw rfl _ rfl _ rfl
end Go.Proofs.Ytopbildpeojgoaa.Ck
