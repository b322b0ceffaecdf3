/- The law ValueOrder: a leaf. -/
import Derived.Test.YtlpkeinablekpaaDoorVdC
import Derived.BigRegion
import Derived.Deep.RegionHeld3
namespace Go.Proofs.YtlpkeinablekpaaDoor.Vd
open Go.RowKit Go.Proofs.YtlpkeinablekpaaDoor Go.Proofs.YtlpkeinablekpaaDoor.Door Go.Proofs.YtlpkeinablekpaaDoor.Ev Go.Proofs.YtlpkeinablekpaaDoor.Sch Go.Proofs.YtlpkeinablekpaaDoor.Evl Go.Proofs.YtlpkeinablekpaaDoor.Ty
set_option linter.unusedVariables false
set_option maxRecDepth 100000
set_option maxHeartbeats 8000000 in
theorem part_VdC_g1 (ak ai : Int) (sa : ByteArray) (ab : Bool) (bk bi : Int) (sb : ByteArray) (bb : Bool) (ck ci : Int) (sc : ByteArray) (cb : Bool) (w : World) (HM : Hid (ML w)) : (part_VdC ak ai sa ab bk bi sb bb ck ci sc cb w HM).G1 := by
  delta part_VdC
  intro g_last
  unhygienic intros
  go_region
  all_goals
    go_wp2
    go_meet
    refine ⟨_, _, _, rfl, rfl, rfl, ?_⟩
    obtain ⟨⟨h0, h1, h2, h3, h4, h5⟩, hb⟩ := row6 w 23 #[.int .i64 ak, .int .i64 ai, .string sa, .bool ab] #[.int .i64 bk, .int .i64 bi, .string sb, .bool bb] #[.int .i64 ck, .int .i64 ci, .string sc, .bool cb] _ _ _
    exact ⟨h0, h1, (by first | exact h3 | exact h4 | exact h5), (by first | exact h3 | exact h4 | exact h5), (by first | exact h3 | exact h4 | exact h5), (by omega), (by omega), (by omega), hb⟩
end Go.Proofs.YtlpkeinablekpaaDoor.Vd
