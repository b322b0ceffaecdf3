/- The walk of the law HashSums. -/
import Derived.Test.YtmkofjdmjilpiaaHashB
import Derived.Deep.DeepCutAuto
namespace Go.Proofs.Ytmkofjdmjilpiaa.Hash
open Go.RowKit Go.Proofs.Ytmkofjdmjilpiaa
set_option linter.unusedVariables false

set_option maxRecDepth 100000 in
set_option maxHeartbeats 1000000 in
theorem sums_law (s : ByteArray) (hs : s.size ≤ maxLen) (q : Int) (hq : (Lit.int .i64 q).wf = true) {w : World} :
    Calls Try.prog 3 #[.string s, .int .i64 q] w fun e w' => e = .returned (.bool true) ∧ Below w.heap.size w w' := by
  clear hq
  have hs' : s.size ≤ 9223372036854775807 := by unfold maxLen at hs; omega
  clear hs
  go_enter Try.func3, Try.ntmps3
  go_upto_region 1 with fail
  go_cut [5] (fun s5 wx => ∃ t : ByteArray, s5 = .string t ∧ t.size ≤ 60 ∧ w = wx)
  case first =>
    rcases (show s.size ≤ 60 ∨ 60 < s.size from by omega) with h | h
    all_goals
      go_wp2
      go_meet
    · exact ⟨s, by simp, by omega, rfl⟩
    · exact ⟨_, rfl, by simp; omega, rfl⟩
  case rest =>
    obtain ⟨t, rfl, ht, rfl⟩ := hcut
    go_upto_region 2 with fail
    go_cut [6] (fun s6 wx => s6 = .int .i64 (partsV q) ∧ w = wx)
    case first =>
      rcases (show (q < 1 ∧ (partsV q : Int) = 1) ∨ (1 ≤ q ∧ q ≤ 64 ∧ (partsV q : Int) = q) ∨ (64 < q ∧ (partsV q : Int) = 64) from by unfold partsV; omega) with ⟨g, hv⟩ | ⟨g, g1, hv⟩ | ⟨g, hv⟩
      all_goals
        have HV := Lib.hid hv
        clear hv
        go_wp2
        go_meet
        exact ⟨by rw [HV.out], rfl⟩
    case rest =>
      obtain ⟨rfl, rfl⟩ := hcut
      obtain ⟨r0, r1⟩ := fnv_range t.data.toList
      obtain ⟨p0, p1⟩ := partsV_pos q
      have hk := partK_int t.data.toList _ p0
      have hk1 := partK_lt t.data.toList _ p0
      go_wp2_with fail
      refine (awake_any _).mono ?_
      rintro e w1 ⟨rfl, hb⟩
      have HB := Lib.hid hb
      clear hb
      go_wp2_with fail
      refine (fnv_any _ _ (by omega)).mono ?_
      rintro e w' ⟨rfl, rfl⟩
      go_wp2_with fail
      refine (sum_any _ _ (by omega)).mono ?_
      rintro e w' ⟨rfl, rfl⟩
      go_wp2_with fail
      refine (part_any _ q _ (by omega)).mono ?_
      rintro e w' ⟨rfl, rfl⟩
      go_wp2_with fail
      refine (sum_any _ _ (by omega)).mono ?_
      rintro e w' ⟨rfl, rfl⟩
      go_wp2
      go_ret
      exact ⟨rfl, HB.out⟩
end Go.Proofs.Ytmkofjdmjilpiaa.Hash
