/- Parts that came in, opened. -/
import Derived.Test.YtlpkeinablekpaaDoorEvlO
import Derived.Test.YtlpkeinablekpaaDoorTmN
import Derived.OpenShut
import Derived.ProofKit
namespace Go.Proofs.YtlpkeinablekpaaDoor.Tm
open Go.RowKit Go.Proofs.YtlpkeinablekpaaDoor Go.Proofs.YtlpkeinablekpaaDoor.Door Go.Proofs.YtlpkeinablekpaaDoor.Ev Go.Proofs.YtlpkeinablekpaaDoor.Sch Go.Proofs.YtlpkeinablekpaaDoor.Evl Go.Proofs.YtlpkeinablekpaaDoor.Ty Go.ChangeShapes Go.WideShapes
set_option linter.unusedVariables false
set_option maxRecDepth 100000
section
variable {H : Type} {enc : TypeId × Value → H} {w : World}
theorem open_nodes_arg {base : Nat} {v : Value} {d : DataW H} {p : List MemPlace} (hv : Value.okWide Tryd.prog w .any base 29 v) (h : DataW.Trod enc Tryd.prog w 0 (fun _ => true) true 29 v d p) :
    ∃ A n c l, v = .slice A n c ∧ Ns w w.heap.size (.slice A n c) l := by
  obtain ⟨a, l, c, rfl⟩ := okWide_slice Tryd.underlying29 hv
  obtain ⟨fuel, hf⟩ := h
  obtain ⟨L, hL, _⟩ := open_nodes (by simpa [Value.cells] using hf)
  exact ⟨a, l, c, L, rfl, hL⟩
end
theorem may_any (lA : Option Addr) (ln lc : Nat) (l : List Nd) {w : World} (hl : Ns w w.heap.size (.slice lA ln lc) l) (A : Option Addr) (n c : Nat) (f : Nat → Int) (hn : n ≤ c) (hc : c ≤ 9223372036854775807) (hp : Lies w w.heap.size A n (fun k => .int .i64 (f k))) (at0 : Int) (hm : ML w) : Calls Tryd.prog 4 #[.slice lA ln lc, .slice A n c, .int .i64 at0] w fun e w' => e = .returned (.bool true) ∧ Below w.heap.size w w' :=
  may_hid lA ln lc l A n c f at0 w hl hn hc hp hm
end Go.Proofs.YtlpkeinablekpaaDoor.Tm
