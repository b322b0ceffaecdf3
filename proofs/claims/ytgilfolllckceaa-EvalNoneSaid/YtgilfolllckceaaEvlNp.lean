/- The law EvalNone over what may come in. -/
import Derived.Test.YtgilfolllckceaaEvlNo
namespace Go.Proofs.Ytgilfolllckceaa.Evl
open Go.RowKit Go.Proofs.Ytgilfolllckceaa Go.Proofs.Ytgilfolllckceaa.Ev Go.Proofs.Ytgilfolllckceaa.Sch Go.Proofs.Ytgilfolllckceaa.Ty Go.Proofs.Ytgilfolllckceaa.Num
set_option linter.unusedVariables false
set_option maxRecDepth 100000
section
open Go.ChangeShapes Go.WideShapes
variable {H : Type} {enc : TypeId × Value → H} {w : World}
theorem open_event_arg {base : Nat} {v : Value} {d : DataW H} {p : List MemPlace} (hv : Value.okWide Try.prog w .any base 43 v) (h : DataW.Trod enc Try.prog w 0 (fun _ => true) true 43 v d p) :
    ∃ x : EI, v = .agg #[.string x.ty, .string x.key, .int .i64 x.t, .int .i64 x.q, .slice x.va x.vn x.vc] ∧ EIOk w w.heap.size x := by
  obtain ⟨cs, rfl, _⟩ := okWide_struct (by kernel_rfl) hv
  obtain ⟨fuel, hf⟩ := h
  obtain ⟨x, hc, hok⟩ := open_event hf
  refine ⟨x, ?_, hok⟩
  have : cs.toList = x.cells := hc
  rw [← Array.toArray_toList (xs := cs), this]
  rfl
theorem open_nodes_arg {base : Nat} {v : Value} {d : DataW H} {p : List MemPlace} (hv : Value.okWide Try.prog w .any base 33 v) (h : DataW.Trod enc Try.prog w 0 (fun _ => true) true 33 v d p) :
    ∃ l : List Nd, Ns w w.heap.size v l ∧ ∀ n ∈ l, In64 n.i := by
  obtain ⟨a, l, c, rfl⟩ := okWide_slice Try.underlying33 hv
  obtain ⟨fuel, hf⟩ := h
  exact open_nodes (by simpa [Value.cells] using hf)
end
end Go.Proofs.Ytgilfolllckceaa.Evl
