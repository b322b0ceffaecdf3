/- How two spans stand: by when they were done; which told ahead of another one's beginning. -/
import Derived.Test.YtaimbkikiokenaaHiA
import Derived.LoopN
namespace Go.Proofs.Ytaimbkikiokenaa.Hi
open Go.RowKit Go.Proofs.Ytaimbkikiokenaa Go.Maps
set_option linter.unusedVariables false
set_option maxRecDepth 100000
def cmp3 (x y : Int) : Int := if x < y then -1 else if y < x then 1 else 0
theorem cmp3_neg (x y : Int) : decide (cmp3 x y < 0) = decide (x < y) := by
  unfold cmp3
  by_cases h1 : x < y
  · simp [h1]
  · by_cases h2 : y < x
    · simp [h1, h2]
    · simp [h1, h2]
theorem nanI (n : Int) (w : World) : Calls Try.prog 119 #[.int .i64 n] w fun e w' => e = .returned (.bool false) ∧ w = w' := by
  go_enter Try.func119, Try.ntmps119
  go_wp2
  go_ret
  exact ⟨rfl, rfl⟩
theorem ret_i {a b : Int} (h : a = b) : Ending.returned (.int .i64 a) = .returned (.int .i64 b) := by rw [h]
theorem cmpI (a b : Int) (w : World) : Calls Try.prog 90 #[.int .i64 a, .int .i64 b] w fun e w' => e = .returned (.int .i64 (cmp3 a b)) ∧ w = w' := by
  go_enter Try.func90, Try.ntmps90
  go_wp2_with fail
  refine (nanI _ _).mono ?_
  rintro e w1 ⟨rfl, rfl⟩
  go_wp2_with fail
  refine (nanI _ _).mono ?_
  rintro e w1 ⟨rfl, rfl⟩
  go_wp2
  all_goals
    go_ret
    refine ⟨ret_i ?_, rfl⟩
    unfold cmp3
    first
      | rw [if_pos (by omega)]
      | rw [if_neg (by omega), if_pos (by omega)]
      | rw [if_neg (by omega), if_neg (by omega)]
def Sp.val (x : Sp) : Value := .agg #[.int .i64 x.c, .int .i64 x.n, .int .i64 x.call, .int .i64 x.turn, .int .i64 x.reply, .int .i64 x.err, .int .i64 x.tick, .int .i64 0, .int .i64 0, .int .i64 0, .int .i64 0, .int .i64 0, .int .i64 0]
theorem order1_any (x y : Sp) (w : World) :
    Calls Try.prog 89 #[.agg #[.int .i64 x.c, .int .i64 x.n, .int .i64 x.call, .int .i64 x.turn, .int .i64 x.reply, .int .i64 x.err, .int .i64 x.tick, .int .i64 0, .int .i64 0, .int .i64 0, .int .i64 0, .int .i64 0, .int .i64 0], .agg #[.int .i64 y.c, .int .i64 y.n, .int .i64 y.call, .int .i64 y.turn, .int .i64 y.reply, .int .i64 y.err, .int .i64 y.tick, .int .i64 0, .int .i64 0, .int .i64 0, .int .i64 0, .int .i64 0, .int .i64 0]] w fun e w' => e = .returned (.int .i64 (cmp3 x.turn y.turn)) ∧ Below w.heap.size w w' := by
  go_enter Try.func89, Try.ntmps89
  go_wp2_with (go_at_call 90; refine (cmpI _ _ _).mono ?_; rintro e w' ⟨rfl, rfl⟩)
  go_ret
  exact ⟨rfl, by go_grown⟩
/-- Did a call tell ahead of another one's beginning? -/
def ahd (x y : Sp) : Bool := decide (0 ≤ x.reply) && decide (x.reply < y.call)
theorem ahead_any (x y : Sp) (w : World) :
    Calls Try.prog 49 #[.agg #[.int .i64 x.c, .int .i64 x.n, .int .i64 x.call, .int .i64 x.turn, .int .i64 x.reply, .int .i64 x.err, .int .i64 x.tick, .int .i64 0, .int .i64 0, .int .i64 0, .int .i64 0, .int .i64 0, .int .i64 0], .agg #[.int .i64 y.c, .int .i64 y.n, .int .i64 y.call, .int .i64 y.turn, .int .i64 y.reply, .int .i64 y.err, .int .i64 y.tick, .int .i64 0, .int .i64 0, .int .i64 0, .int .i64 0, .int .i64 0, .int .i64 0]] w fun e w' => e = .returned (.bool (ahd x y)) ∧ Below w.heap.size w w' := by
  by_cases h1 : 0 ≤ x.reply
  · obtain ⟨b, hb⟩ : ∃ b, decide (x.reply < y.call) = b := ⟨_, rfl⟩
    have HB := Lib.hid (show ahd x y = b from by unfold ahd; rw [hb, decide_eq_true h1]; rfl)
    go_enter Try.func49, Try.ntmps49
    go_wp2
    go_ret
    exact ⟨by rw [HB.out]; rfl, by go_grown⟩
  · have HB := Lib.hid (show ahd x y = false from by unfold ahd; rw [decide_eq_false h1]; rfl)
    go_enter Try.func49, Try.ntmps49
    go_wp2
    go_ret
    exact ⟨by rw [HB.out]; rfl, by go_grown⟩
end Go.Proofs.Ytaimbkikiokenaa.Hi
