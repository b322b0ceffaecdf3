/- None's calls; the law's 'awake'. -/
import Derived.Test.YtmkofjdmjilpiaaAlB
namespace Go.Proofs.Ytmkofjdmjilpiaa.Al
open Go.RowKit Go.Proofs.Ytmkofjdmjilpiaa Go.Proofs.Ytmkofjdmjilpiaa.Mark
set_option linter.unusedVariables false
set_option maxRecDepth 100000

section
variable (w : World)
theorem all_nil : Calls Try.prog 63 #[.pointer none] w fun e w' => e = .returned (.slice none 0 0) ∧ w = w' := by
  go_enter Try.func63, Try.ntmps63
  go_wp2
  go_ret
  exact ⟨rfl, rfl⟩
theorem parts_nil : Calls Try.prog 46 #[.pointer none] w fun e w' => e = .returned (.int .i64 0) ∧ w = w' := by
  go_enter Try.func46, Try.ntmps46
  go_wp2_with (go_at_call 63; refine (all_nil _).mono ?_; rintro e w' ⟨rfl, rfl⟩)
  go_ret
  exact ⟨rfl, rfl⟩
theorem has_nil (p : Int) : Calls Try.prog 64 #[.pointer none, .int .i64 p] w fun e w' => e = .returned (.bool false) ∧ w = w' := by
  rcases (show p < 0 ∨ 0 ≤ p from by omega) with hp | hp
  · go_enter Try.func64, Try.ntmps64
    go_wp2
    go_ret
    exact ⟨ret_bool (by simp), rfl⟩
  · go_enter Try.func64, Try.ntmps64
    go_wp2_with (go_at_call 46; refine (parts_nil _).mono ?_; rintro e w' ⟨rfl, rfl⟩)
    go_ret
    exact ⟨ret_bool (by simp; omega), rfl⟩
theorem to_nil (p t : Int) : Calls Try.prog 47 #[.pointer none, .int .i64 p, .int .i64 t] w fun e w' => e = .returned (.int .i64 1) ∧ w = w' := by
  go_enter Try.func47, Try.ntmps47
  go_wp2_with fail
  refine (has_nil _ p).mono ?_
  rintro e w' ⟨rfl, rfl⟩
  go_wp2
  go_ret
  exact ⟨rfl, rfl⟩
theorem at_nil : Calls Try.prog 50 #[.pointer none] w fun e w' => e = .returned (.int .i64 (-1)) ∧ Below w.heap.size w w' := by
  go_enter Try.func50, Try.ntmps50
  go_wp2_with fail
  refine (all_nil _).mono ?_
  rintro e w' ⟨rfl, rfl⟩
  go_wp2_with fail
  refine (least_none 0 none _).mono ?_
  rintro e w1 ⟨rfl, hb⟩
  have HB := Lib.hid hb
  clear hb
  go_wp2_with fail
  refine (at_any 0 _ (by omega) (by omega)).mono ?_
  rintro e w2 ⟨rfl, hb⟩
  have HB2 := Lib.hid (HB.out.trans (hb.mono HB.out.size))
  clear hb
  go_wp2
  go_ret
  exact ⟨rfl, HB2.out⟩
theorem behind_nil : Calls Try.prog 48 #[.pointer none] w fun e w' => e = .returned (.slice none 0 0) ∧ Below w.heap.size w w' := by
  go_enter Try.func48, Try.ntmps48
  go_wp2_with fail
  refine (at_nil _).mono ?_
  rintro e w1 ⟨rfl, hb⟩
  have HB1 := Lib.hid hb
  clear hb
  go_wp2_with fail
  refine (all_nil _).mono ?_
  rintro e w' ⟨rfl, rfl⟩
  go_wp2
  go_loopw [4, 12] (fun v i wr => v = .slice none 0 0 ∧ i = .int .i64 0 ∧ w1 = wr) (fun _ _ _ => 0)
  case atStart => exact ⟨rfl, rfl, rfl⟩
  case round =>
    obtain ⟨rfl, rfl, rfl⟩ := hrel
    go_wp2
    go_ret
    exact ⟨rfl, HB1.out⟩
end
set_option maxHeartbeats 2000000 in
theorem awake_any (w : World) : Calls Try.prog 51 #[] w fun e w' => e = .returned (.bool true) ∧ Below w.heap.size w w' := by
  go_enter Try.func51, Try.ntmps51
  go_wp2_with fail
  refine (new_any 2 _).mono ?_
  rintro e w1 ⟨rfl, ha, hb⟩
  have HB := Lib.hid hb
  have HA := Lib.hid ha
  clear ha hb
  go_wp2_with fail
  refine (to_yes _ _ _ _ _ HA.out 0 (by decide) 5 6 0 ⟨.inr (.inr ⟨by decide, by decide, by decide, rfl⟩)⟩ (by decide)).mono ?_
  rintro e w2 ⟨rfl, ha, ht⟩
  have HA2 := Lib.hid ha
  have HB2 := Lib.hid (ht.below HB.out HB.out.size (fun k hk e => by omega))
  clear ha ht
  go_wp2_with fail
  refine (behind_any _ _ _ _ _ HA2.out).mono ?_
  rintro e w3 ⟨v, rfl, hv⟩
  have HA3 := Lib.hid (HA2.out.call hv.be)
  have HB3 := Lib.hid (HB2.out.trans (hv.be.mono HB2.out.size))
  rw [show behL (updF (fun _ => 0) 0 6) (partsV 2) (partsV 2) = [1] by decide] at hv
  obtain ⟨ob, hs, ho⟩ := hv.sg
  obtain ⟨g, o, cap, rfl, -, h1, h2, h3, -⟩ := hs.shape (by decide)
  have hc : w3.cell? ⟨g, o, none⟩ = some (.int .i64 1) := h3 0 _ rfl
  clear hv hs ho h3
  go_wp2_with fail
  refine (at_all _ _ _ _ _ HA3.out).mono ?_
  rintro e w4 ⟨rfl, hb⟩
  have HA4 := Lib.hid (HA3.out.call hb)
  have HB4 := Lib.hid (HB3.out.trans (hb.mono HB3.out.size))
  have hc4 := (hb.cell (p := ⟨g, o, none⟩) (World.block_lt_of_cell? _ _ hc)).trans hc
  clear hb
  rw [show mn (updF (fun _ => 0) 0 6) (partsV 2) - 1 = -1 by decide]
  go_wp2_with fail
  refine (of_yes _ _ _ _ _ HA4.out 0 (by decide)).mono ?_
  rintro e w5 ⟨rfl, hb⟩
  have HB5 := Lib.hid (HB4.out.trans (hb.mono HB4.out.size))
  have hc5 := (hb.cell (p := ⟨g, o, none⟩) (World.block_lt_of_cell? _ _ hc4)).trans hc4
  clear hb
  rw [show updF (fun _ => 0) 0 6 0 - 1 = 5 by decide]
  go_wp2
  go_ret
  exact ⟨rfl, HB5.out⟩
end Go.Proofs.Ytmkofjdmjilpiaa.Al
