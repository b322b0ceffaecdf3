/- The statement 'NumTimes': for every three numbers of 64 bits the law answers true, and its arguments read as they did. No condition. -/
import Derived.Test.YtbchcggbdcifhaaE
import Derived.ProofKit
import Derived.OpenShut
namespace Go.Proofs.Ytbchcggbdcifhaa
open Go.RowKit

theorem time_yes (t : Int) (w : World) (h : 0 ≤ t) (g : t ≤ 1099511627776) : Calls Try.prog 17 #[.int .i64 t] w fun e w' => e = .returned (.bool true) ∧ w = w' :=
  (time_any t w).mono fun _ _ ⟨h1, h2⟩ => ⟨h1.trans (by rw [show TimeB t = true from by simp [TimeB]; omega]), h2⟩
theorem time_no (t : Int) (w : World) (h : t < 0 ∨ 1099511627776 < t) : Calls Try.prog 17 #[.int .i64 t] w fun e w' => e = .returned (.bool false) ∧ w = w' :=
  (time_any t w).mono fun _ _ ⟨h1, h2⟩ => ⟨h1.trans (by rw [show TimeB t = false from by simp [TimeB]; omega]), h2⟩

/-- Which of the ways through 'Within' three numbers take. -/
inductive Way (a b m : Int) : Bool → Prop
  | a0 : a < 0 → Way a b m false
  | a1 : 0 ≤ a → 1099511627776 < a → Way a b m false
  | b0 : 0 ≤ a → a ≤ 1099511627776 → b < 0 → Way a b m false
  | b1 : 0 ≤ a → a ≤ 1099511627776 → 0 ≤ b → 1099511627776 < b → Way a b m false
  | lt : 0 ≤ a → a ≤ 1099511627776 → 0 ≤ b → b ≤ 1099511627776 → b < a → Way a b m false
  | far : 0 ≤ a → a ≤ 1099511627776 → 0 ≤ b → b ≤ 1099511627776 → a ≤ b → m < b - a → Way a b m false
  | yes : 0 ≤ a → a ≤ 1099511627776 → 0 ≤ b → b ≤ 1099511627776 → a ≤ b → b - a ≤ m → Way a b m true
theorem way_any (a b m : Int) : ∃ r, Way a b m r := by
  by_cases h1 : a < 0
  · exact ⟨_, .a0 h1⟩
  by_cases h2 : 1099511627776 < a
  · exact ⟨_, .a1 (by omega) h2⟩
  by_cases h3 : b < 0
  · exact ⟨_, .b0 (by omega) (by omega) h3⟩
  by_cases h4 : 1099511627776 < b
  · exact ⟨_, .b1 (by omega) (by omega) (by omega) h4⟩
  by_cases h5 : b < a
  · exact ⟨_, .lt (by omega) (by omega) (by omega) (by omega) h5⟩
  by_cases h6 : m < b - a
  · exact ⟨_, .far (by omega) (by omega) (by omega) (by omega) (by omega) h6⟩
  · exact ⟨_, .yes (by omega) (by omega) (by omega) (by omega) (by omega) (by omega)⟩

set_option maxHeartbeats 1000000 in
theorem within_any (a b m : Int) (r : Bool) (w : World) (h : Way a b m r) :
    Calls Try.prog 18 #[.int .i64 a, .int .i64 b, .int .i64 m] w fun e w' => e = .returned (.bool r) ∧ w = w' := by
  cases h
  all_goals
    go_enter Try.func18, Try.ntmps18
    go_wp2_with (go_at_call 17; first
      | (with_reducible refine (time_yes _ _ (by omega) (by omega)).mono ?_; rintro e w' ⟨rfl, rfl⟩)
      | (with_reducible refine (time_no _ _ (by omega)).mono ?_; rintro e w' ⟨rfl, rfl⟩))
    go_ret
    exact ⟨by first | rfl | exact ret_bool (decide_eq_false (by omega)), rfl⟩

set_option maxHeartbeats 2000000 in
theorem times_walk (a b m : Int) (w : World) :
    Calls Try.prog 6 #[.int .i64 a, .int .i64 b, .int .i64 m] w fun e w' => e = .returned (.bool true) ∧ Below w.heap.size w w' := by
  obtain ⟨r, h⟩ := way_any a b m
  have HW := Lib.hid h
  cases h
  all_goals
    go_enter Try.func6, Try.ntmps6
    go_wp2_with (first
      | (go_at_call 11; refine (awake_any _).mono ?_; rintro e w1 ⟨rfl, hb⟩)
      | (go_at_call 18; refine (within_any _ _ _ _ _ HW.out).mono ?_; rintro e w' ⟨rfl, rfl⟩)
      | (go_at_call 17; first
        | (with_reducible refine (time_yes _ _ (by omega) (by omega)).mono ?_; rintro e w' ⟨rfl, rfl⟩)
        | (with_reducible refine (time_no _ _ (by omega)).mono ?_; rintro e w' ⟨rfl, rfl⟩)))
    all_goals (go_ret; exact ⟨by first | rfl | exact ret_bool (by rw [decide_eq_false (by omega)]; rfl), by assumption⟩)
theorem times_law (a b m : Int) (_ : (Lit.int .i64 a).wf = true) (_ : (Lit.int .i64 b).wf = true) (_ : (Lit.int .i64 m).wf = true) (w : World) :
    Calls Try.prog 6 #[.int .i64 a, .int .i64 b, .int .i64 m] w fun e w' => e = .returned (.bool true) ∧ Below w.heap.size w w' := times_walk a b m w
end Go.Proofs.Ytbchcggbdcifhaa
