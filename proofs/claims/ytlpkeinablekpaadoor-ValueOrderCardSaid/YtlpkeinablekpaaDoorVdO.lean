/- Values that came in, opened. -/
import Derived.Test.YtlpkeinablekpaaDoorEvO
import Derived.Test.YtlpkeinablekpaaDoorVdA
namespace Go.Proofs.YtlpkeinablekpaaDoor.Vd
open Go.RowKit Go.Proofs.YtlpkeinablekpaaDoor Go.Proofs.YtlpkeinablekpaaDoor.Ev Go.ChangeShapes Go.WideShapes
set_option linter.unusedVariables false
set_option maxRecDepth 100000
section
variable {H : Type} {enc : TypeId × Value → H} {w : World}
theorem open_value_arg {base : Nat} {v : Value} {d : DataW H} {p : List MemPlace} (hv : Value.okWide Tryd.prog w .any base 23 v) (h : DataW.Trod enc Tryd.prog w 0 (fun _ => true) true 23 v d p) :
    ∃ x : VV, v = .agg #[.int .i64 x.k, .int .i64 x.i, .string x.s, .bool x.b] ∧ (-9223372036854775808 ≤ x.i ∧ x.i ≤ 9223372036854775807) ∧ (-9223372036854775808 ≤ x.k ∧ x.k ≤ 9223372036854775807) ∧ x.s.size ≤ 9223372036854775807 := by
  obtain ⟨cs, rfl, _⟩ := okWide_struct (by kernel_rfl) hv
  obtain ⟨fuel, hf⟩ := h
  obtain ⟨x, hc, h1, h2, h3⟩ := open_value hf
  refine ⟨x, ?_, h1, h2, h3⟩
  have : cs.toList = x.cells := hc
  rw [← Array.toArray_toList (xs := cs), this]
  rfl
end
end Go.Proofs.YtlpkeinablekpaaDoor.Vd
