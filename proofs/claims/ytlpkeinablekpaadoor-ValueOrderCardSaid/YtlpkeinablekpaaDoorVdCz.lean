/- The law ValueOrder. -/
import Derived.Test.YtlpkeinablekpaaDoorVdCg1
import Derived.Test.YtlpkeinablekpaaDoorVdCg2
import Derived.Test.YtlpkeinablekpaaDoorVdCg3
import Derived.Test.YtlpkeinablekpaaDoorVdCg4
import Derived.Test.YtlpkeinablekpaaDoorVdCg5
import Derived.Test.YtlpkeinablekpaaDoorVdCg6
import Derived.Test.YtlpkeinablekpaaDoorVdCg7
namespace Go.Proofs.YtlpkeinablekpaaDoor.Vd
open Go.RowKit Go.Proofs.YtlpkeinablekpaaDoor Go.Proofs.YtlpkeinablekpaaDoor.Door Go.Proofs.YtlpkeinablekpaaDoor.Ev Go.Proofs.YtlpkeinablekpaaDoor.Sch Go.Proofs.YtlpkeinablekpaaDoor.Evl Go.Proofs.YtlpkeinablekpaaDoor.Ty
set_option linter.unusedVariables false
set_option maxRecDepth 100000
theorem order_hid (ak ai : Int) (sa : ByteArray) (ab : Bool) (bk bi : Int) (sb : ByteArray) (bb : Bool) (ck ci : Int) (sc : ByteArray) (cb : Bool) (w : World) (HM : Hid (ML w)) :
    Calls Tryd.prog 5 #[.agg #[.int .i64 ak, .int .i64 ai, .string sa, .bool ab], .agg #[.int .i64 bk, .int .i64 bi, .string sb, .bool bb], .agg #[.int .i64 ck, .int .i64 ci, .string sc, .bool cb]] w fun e w' => e = .returned (.bool true) ∧ Below w.heap.size w w' :=
  (part_VdC ak ai sa ab bk bi sb bb ck ci sc cb w HM).ok (Lib.hid (part_VdC_g1 ak ai sa ab bk bi sb bb ck ci sc cb w HM)) (Lib.hid (part_VdC_g2 ak ai sa ab bk bi sb bb ck ci sc cb w HM)) (Lib.hid (part_VdC_g3 ak ai sa ab bk bi sb bb ck ci sc cb w HM)) (Lib.hid (part_VdC_g4 ak ai sa ab bk bi sb bb ck ci sc cb w HM)) (Lib.hid (part_VdC_g5 ak ai sa ab bk bi sb bb ck ci sc cb w HM)) (Lib.hid (part_VdC_g6 ak ai sa ab bk bi sb bb ck ci sc cb w HM)) (Lib.hid (part_VdC_g7 ak ai sa ab bk bi sb bb ck ci sc cb w HM)) (Lib.hid trivial)
theorem order_any (a b c : VV) (w : World) (hm : ML w) : Calls Tryd.prog 5 #[.agg #[.int .i64 a.k, .int .i64 a.i, .string a.s, .bool a.b], .agg #[.int .i64 b.k, .int .i64 b.i, .string b.s, .bool b.b], .agg #[.int .i64 c.k, .int .i64 c.i, .string c.s, .bool c.b]] w fun e w' => e = .returned (.bool true) ∧ Below w.heap.size w w' :=
  order_hid a.k a.i a.s a.b b.k b.i b.s b.b c.k c.i c.s c.b w (Lib.hid hm)
end Go.Proofs.YtlpkeinablekpaaDoor.Vd
