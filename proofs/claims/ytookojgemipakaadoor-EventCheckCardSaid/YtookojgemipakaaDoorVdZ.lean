/- A result that is a struct. -/
import Derived.Test.YtookojgemipakaaDoorKit
import Derived.Test.YtookojgemipakaaDoorMem
namespace Go.Proofs.YtookojgemipakaaDoor.Vd
open Go.RowKit Go.Proofs.YtookojgemipakaaDoor
set_option linter.unusedVariables false
set_option maxRecDepth 100000
/-- The result's block. -/
def Rz (X : World) (b : Nat) : Prop := Row X b 33 #[.int .i64 0, .int .i64 0, .string ⟨#[]⟩, .bool false]
theorem Rz.facts {X : World} {b : Nat} (r : Rz X b) : b < X.heap.size ∧ X.cell? ⟨b, 0, none⟩ = some (.int .i64 0) ∧ X.cell? ⟨b, 1, none⟩ = some (.int .i64 0) ∧ X.cell? ⟨b, 2, none⟩ = some (.string ⟨#[]⟩) ∧ X.cell? ⟨b, 3, none⟩ = some (.bool false)
    ∧ X.frozen? ⟨b, 0, none⟩ = false ∧ X.frozen? ⟨b, 1, none⟩ = false ∧ X.frozen? ⟨b, 2, none⟩ = false ∧ X.frozen? ⟨b, 3, none⟩ = false :=
  ⟨r.lt, (r.cell 0).trans rfl, (r.cell 1).trans rfl, (r.cell 2).trans rfl, (r.cell 3).trans rfl, r.free 0, r.free 1, r.free 2, r.free 3⟩
theorem put4 {X : World} {b : Nat} (r : Rz X b) (u0 u1 u2 u3 : Value) :
    Row ((((X.setCell ⟨b, 0, none⟩ u0).setCell ⟨b, 1, none⟩ u1).setCell ⟨b, 2, none⟩ u2).setCell ⟨b, 3, none⟩ u3) b 33 #[u0, u1, u2, u3] := by
  simpa using (((Row.put r 0 u0).put 1 u1).put 2 u2).put 3 u3
theorem four {Y : World} {b : Nat} {u0 u1 u2 u3 : Value} (r : Row Y b 33 #[u0, u1, u2, u3]) : Y.cell? ⟨b, 0, none⟩ = some u0 ∧ Y.cell? ⟨b, 1, none⟩ = some u1 ∧ Y.cell? ⟨b, 2, none⟩ = some u2 ∧ Y.cell? ⟨b, 3, none⟩ = some u3 :=
  ⟨(r.cell 0).trans rfl, (r.cell 1).trans rfl, (r.cell 2).trans rfl, (r.cell 3).trans rfl⟩
theorem below4 {w X : World} (h : Below w.heap.size w X) (b : Nat) (hb : w.heap.size ≤ b) (u0 u1 u2 u3 : Value) : Below w.heap.size w ((((X.setCell ⟨b, 0, none⟩ u0).setCell ⟨b, 1, none⟩ u1).setCell ⟨b, 2, none⟩ u2).setCell ⟨b, 3, none⟩ u3) :=
  (((h.setCell (p := ⟨b, 0, none⟩) hb _).setCell (p := ⟨b, 1, none⟩) hb _).setCell (p := ⟨b, 2, none⟩) hb _).setCell (p := ⟨b, 3, none⟩) hb _
end Go.Proofs.YtookojgemipakaaDoor.Vd
