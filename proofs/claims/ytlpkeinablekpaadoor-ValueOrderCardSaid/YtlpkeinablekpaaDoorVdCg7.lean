/- The law ValueOrder: a leaf. -/
import Derived.Test.YtlpkeinablekpaaDoorVdC
import Derived.BigRegion
import Derived.Deep.RegionHeld3
namespace Go.Proofs.YtlpkeinablekpaaDoor.Vd
open Go.RowKit Go.Proofs.YtlpkeinablekpaaDoor Go.Proofs.YtlpkeinablekpaaDoor.Door Go.Proofs.YtlpkeinablekpaaDoor.Ev Go.Proofs.YtlpkeinablekpaaDoor.Sch Go.Proofs.YtlpkeinablekpaaDoor.Evl Go.Proofs.YtlpkeinablekpaaDoor.Ty
set_option linter.unusedVariables false
set_option maxRecDepth 100000
set_option maxHeartbeats 8000000 in
theorem part_VdC_g7 (ak ai : Int) (sa : ByteArray) (ab : Bool) (bk bi : Int) (sb : ByteArray) (bb : Bool) (ck ci : Int) (sc : ByteArray) (cb : Bool) (w : World) (HM : Hid (ML w)) : (part_VdC ak ai sa ab bk bi sb bb ck ci sc cb w HM).G7 := by
  delta part_VdC
  intro g_last
  unhygienic intros
  have HXY : Hid (ordV ⟨ak, ai, sa, ab⟩ ⟨yk, bi, sb, bb⟩ = none) := ordV_none (a := ⟨ak, ai, sa, ab⟩) (b := ⟨yk, bi, sb, bb⟩) (by dsimp only; omega)
  have HYX : Hid (ordV ⟨yk, bi, sb, bb⟩ ⟨ak, ai, sa, ab⟩ = none) := ordV_none (a := ⟨yk, bi, sb, bb⟩) (b := ⟨ak, ai, sa, ab⟩) (by dsimp only; omega)
  have HKK := Lib.hid hK
  clear hK
  go_wp2_with fail
  refine (vcmp_no HXY.out _).mono ?_
  rintro e w1 ⟨rfl, hb⟩
  have HV6 := Lib.hid (HV5.out.call hb)
  clear a0 a1 a2 p0 p1 x0 x1 x2 x3 y0 y1 y2 y3 z0 z1 z2 z3 f8 f9 hb
  obtain ⟨a0, a1, a2, p0, p1, x0, x1, x2, x3, y0, y1, y2, y3, z0, z1, z2, z3, f8, f9⟩ := HV6.out.cells
  dsimp only at a0 a1 a2 p0 p1 x0 x1 x2 x3 y0 y1 y2 y3 z0 z1 z2 z3 f8 f9
  go_wp2_with fail
  refine (vcmp_no HYX.out _).mono ?_
  rintro e w2 ⟨rfl, hb⟩
  have HV7 := Lib.hid (HV6.out.call hb)
  clear a0 a1 a2 p0 p1 x0 x1 x2 x3 y0 y1 y2 y3 z0 z1 z2 z3 f8 f9 hb
  obtain ⟨a0, a1, a2, p0, p1, x0, x1, x2, x3, y0, y1, y2, y3, z0, z1, z2, z3, f8, f9⟩ := HV7.out.cells
  dsimp only at a0 a1 a2 p0 p1 x0 x1 x2 x3 y0 y1 y2 y3 z0 z1 z2 z3 f8 f9
  have HMz := Lib.hid (HM.out.below HV7.out.be)
  by_cases e1 : ak = yk
  · by_cases e2 : ak < 1
    · have e4 : (ak == yk) = true := by rw [e1]; simp
      have e3 : decide (ak < 1) = true := decide_eq_true e2
      have HE := Lib.hid e1
      clear e1
      go_wp2_with fail
      refine (awake02 _ HMz.out).mono ?_
      rintro e w3 ⟨rfl, hb⟩
      have HF := Lib.hid (HV7.out.call hb).be
      clear a0 a1 a2 p0 p1 x0 x1 x2 x3 y0 y1 y2 y3 z0 z1 z2 z3 f8 f9 hb
      go_wp2
      go_ret
      exact ⟨rfl, HF.out⟩
    · have e4 : (ak == yk) = true := by rw [e1]; simp
      have e3 : decide (ak < 1) = false := decide_eq_false e2
      have e5 : 3 < ak := by have := HKK.out; omega
      have e6 : decide (3 < ak) = true := decide_eq_true e5
      have HE := Lib.hid e1
      clear e1
      go_wp2_with fail
      refine (awake02 _ HMz.out).mono ?_
      rintro e w3 ⟨rfl, hb⟩
      have HF := Lib.hid (HV7.out.call hb).be
      clear a0 a1 a2 p0 p1 x0 x1 x2 x3 y0 y1 y2 y3 z0 z1 z2 z3 f8 f9 hb
      go_wp2
      go_ret
      exact ⟨rfl, HF.out⟩
  · have e4 : (ak == yk) = false := by rw [beq_eq_false_iff_ne]; exact e1
    go_wp2_with fail
    refine (awake02 _ HMz.out).mono ?_
    rintro e w3 ⟨rfl, hb⟩
    have HF := Lib.hid (HV7.out.call hb).be
    clear a0 a1 a2 p0 p1 x0 x1 x2 x3 y0 y1 y2 y3 z0 z1 z2 z3 f8 f9 hb
    go_wp2
    go_ret
    exact ⟨rfl, HF.out⟩
end Go.Proofs.YtlpkeinablekpaaDoor.Vd
