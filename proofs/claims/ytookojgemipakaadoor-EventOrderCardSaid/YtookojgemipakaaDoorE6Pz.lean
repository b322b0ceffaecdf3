/- The law EventOrder: the events that are sorted; the first of its walk. -/
import Derived.Test.YtookojgemipakaaDoorE6Pg1
import Derived.Test.YtookojgemipakaaDoorE6Pg2
namespace Go.Proofs.YtookojgemipakaaDoor.E6
open Go.RowKit Go.Proofs.YtookojgemipakaaDoor Go.Proofs.YtookojgemipakaaDoor.Door Go.Proofs.YtookojgemipakaaDoor.Ev Go.Proofs.YtookojgemipakaaDoor.Sch Go.Proofs.YtookojgemipakaaDoor.Ty Go.Proofs.YtookojgemipakaaDoor.Evl Go.Proofs.YtookojgemipakaaDoor.E4
set_option linter.unusedVariables false
set_option maxRecDepth 100000
theorem order_hid (A : Option Addr) (n c : Nat) (F : Nat → EI) (at' : Int) (w : World) (hnc : n ≤ c) (hc : c ≤ 9223372036854775807) (HL : Hid (ELies w w.heap.size A n F)) (HMM : Hid (ML w)) :
    Calls Tryd.prog 4 #[.slice A n c, .int .i64 at'] w fun e w' => e = .returned (.bool true) ∧ Below w.heap.size w w' :=
  (part_E6P A n c F at' w hnc hc HL HMM).ok (Lib.hid (part_E6P_g1 A n c F at' w hnc hc HL HMM)) (Lib.hid (part_E6P_g2 A n c F at' w hnc hc HL HMM)) (Lib.hid trivial)
end Go.Proofs.YtookojgemipakaaDoor.E6
