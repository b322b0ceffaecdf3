/- The kind of a part that is of others. -/
import Derived.Test.YtookojgemipakaaDoorTyE
namespace Go.Proofs.YtookojgemipakaaDoor.Ty
open Go.RowKit Go.Proofs.YtookojgemipakaaDoor Go.Proofs.YtookojgemipakaaDoor.Sch
set_option linter.unusedVariables false
set_option maxRecDepth 100000
/-- A kind, if what it asks for is so. -/
def ask (k : Int) (so : Bool) : Int × Int := if so = true then (k, 0) else (0, 10)
/-- What a part of an op comes to, by the kinds that it is of. -/
def opK (o : Int) (L : List Int) : Int × Int :=
  if o ≤ 6 then ask 1 (L.all (fun x => x == 1)) else if 13 ≤ o then ask 3 (L.all (fun x => x == 3)) else ask 3 (L.all (fun x => x == L.headD 0))
def KPost (w : World) (r : Int × Int) (e : Ending) (w' : World) : Prop := e = .returned (.tuple #[.int .i64 r.1, .int .i64 r.2]) ∧ Below w.heap.size w w'
theorem kpost_mk {w w' : World} {r r' : Int × Int} (h : r = r') (hb : Below w.heap.size w w') : KPost w r' (.returned (.tuple #[.int .i64 r.1, .int .i64 r.2])) w' := ⟨by rw [h], hb⟩
end Go.Proofs.YtookojgemipakaaDoor.Ty
