/- The law ValueOrder: a leaf. -/
import Derived.Test.YtlpkeinablekpaaDoorVdC
import Derived.BigRegion
import Derived.Deep.RegionHeld3
namespace Go.Proofs.YtlpkeinablekpaaDoor.Vd
open Go.RowKit Go.Proofs.YtlpkeinablekpaaDoor Go.Proofs.YtlpkeinablekpaaDoor.Door Go.Proofs.YtlpkeinablekpaaDoor.Ev Go.Proofs.YtlpkeinablekpaaDoor.Sch Go.Proofs.YtlpkeinablekpaaDoor.Evl Go.Proofs.YtlpkeinablekpaaDoor.Ty
set_option linter.unusedVariables false
set_option maxRecDepth 100000
set_option maxHeartbeats 8000000 in
theorem part_VdC_g2 (ak ai : Int) (sa : ByteArray) (ab : Bool) (bk bi : Int) (sb : ByteArray) (bb : Bool) (ck ci : Int) (sc : ByteArray) (cb : Bool) (w : World) (HM : Hid (ML w)) : (part_VdC ak ai sa ab bk bi sb bb ck ci sc cb w HM).G2 := by
  delta part_VdC
  intro g_last
  unhygienic intros
  rcases (show ak = 1 ∨ ak = 2 ∨ ak = 3 by omega) with rfl | rfl | rfl
  · have hn1 := HN.out.1 rfl
    rcases cmpI_vals ai bi with ⟨h, x⟩ | ⟨h, x⟩ | ⟨h, x⟩
    · obtain rfl : n = -1 := hn1.trans h
      clear hn1 h
      have d1 : (ai == bi) = false := by rw [beq_eq_false_iff_ne]; omega
      clear x
      go_wp2
      go_meet
      exact ⟨_, rfl, rfl, rfl⟩
    · obtain rfl : n = 0 := hn1.trans h
      clear hn1 h
      have d1 : (ai == bi) = true := by rw [x]; simp
      clear x
      go_wp2
      go_meet
      exact ⟨_, rfl, rfl, rfl⟩
    · obtain rfl : n = 1 := hn1.trans h
      clear hn1 h
      have d1 : (ai == bi) = false := by rw [beq_eq_false_iff_ne]; omega
      clear x
      go_wp2
      go_meet
      exact ⟨_, rfl, rfl, rfl⟩
  · have hn1 := HN.out.2.1 rfl
    rcases cmpS_vals sa sb with ⟨h, x, x2⟩ | ⟨h, x, x2⟩ | ⟨h, x, x2, x3⟩
    · obtain rfl : n = -1 := hn1.trans h
      clear hn1 h
      go_wp2
      go_meet
      exact ⟨_, rfl, rfl, rfl⟩
    · obtain rfl : n = 0 := hn1.trans h
      clear hn1 h
      go_wp2
      go_meet
      exact ⟨_, rfl, rfl, rfl⟩
    · obtain rfl : n = 1 := hn1.trans h
      clear hn1 h x3
      go_wp2
      go_meet
      exact ⟨_, rfl, rfl, rfl⟩
  · have hn1 := HN.out.2.2 rfl
    cases ab <;> cases bb
    · obtain rfl : n = 0 := hn1.trans rfl
      clear hn1
      go_wp2
      go_meet
      exact ⟨_, rfl, rfl, rfl⟩
    · obtain rfl : n = -1 := hn1.trans rfl
      clear hn1
      go_wp2
      go_meet
      exact ⟨_, rfl, rfl, rfl⟩
    · obtain rfl : n = 1 := hn1.trans rfl
      clear hn1
      go_wp2
      go_meet
      exact ⟨_, rfl, rfl, rfl⟩
    · obtain rfl : n = 0 := hn1.trans rfl
      clear hn1
      go_wp2
      go_meet
      exact ⟨_, rfl, rfl, rfl⟩
end Go.Proofs.YtlpkeinablekpaaDoor.Vd
