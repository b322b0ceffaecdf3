/- The law's own 'awake' answers true; what was there stays. -/
import Derived.Test.YtbchcggbdcifhaaD
namespace Go.Proofs.Ytbchcggbdcifhaa
open Go.RowKit

theorem parse_m7 (w : World) : Calls Try.prog 14 #[.string ⟨#[45, 55]⟩] w fun e w' => e = .returned (.tuple #[.int .i64 (-7), .bool true]) ∧ w = w' :=
  (parse_any ⟨#[45, 55]⟩ w (by decide)).mono fun _ _ ⟨h1, h2⟩ => ⟨h1.trans (by rw [show parseV ⟨#[45, 55]⟩ = -7 from by decide, show parseB ⟨#[45, 55]⟩ = true from by decide]), h2⟩
theorem parse_07 (w : World) : Calls Try.prog 14 #[.string ⟨#[48, 55]⟩] w fun e w' => e = .returned (.tuple #[.int .i64 0, .bool false]) ∧ w = w' :=
  (parse_any ⟨#[48, 55]⟩ w (by decide)).mono fun _ _ ⟨h1, h2⟩ => ⟨h1.trans (by rw [show parseV ⟨#[48, 55]⟩ = 0 from by decide, show parseB ⟨#[48, 55]⟩ = false from by decide]), h2⟩
theorem txt_m120 : txt (-120) = [45, 49, 50, 48] := by
  unfold txt
  rw [if_pos (by omega), show (-120 : Int).natAbs = 120 from rfl, dg_ge (by omega), dg_ge (by omega), dg_lt (by omega)]
  rfl
theorem digits_m120 (w : World) : Calls Try.prog 15 #[.int .i64 (-120)] w fun e w' => e = .returned (.string ⟨#[45, 49, 50, 48]⟩) ∧ Below w.heap.size w w' :=
  (digits_any (-120) w (by omega) (by omega)).mono fun _ _ ⟨h1, h2⟩ => ⟨h1.trans (by rw [txt_m120]), h2⟩
theorem time_0 (w : World) : Calls Try.prog 17 #[.int .i64 0] w fun e w' => e = .returned (.bool true) ∧ w = w' := time_any 0 w
theorem time_m1 (w : World) : Calls Try.prog 17 #[.int .i64 (-1)] w fun e w' => e = .returned (.bool false) ∧ w = w' := time_any (-1) w

set_option maxHeartbeats 400000 in
theorem awake_any (w : World) : Calls Try.prog 11 #[] w fun e w' => e = .returned (.bool true) ∧ Below w.heap.size w w' := by
  go_enter Try.func11, Try.ntmps11
  go_wp2_with (first
    | (go_at_call 14; first
        | (with_reducible refine (parse_m7 _).mono ?_; rintro e w' ⟨rfl, rfl⟩)
        | (with_reducible refine (parse_07 _).mono ?_; rintro e w' ⟨rfl, rfl⟩))
    | (go_at_call 15; refine (digits_m120 _).mono ?_; rintro e w1 ⟨rfl, hb⟩)
    | (go_at_call 17; first
        | (with_reducible refine (time_0 _).mono ?_; rintro e w' ⟨rfl, rfl⟩)
        | (with_reducible refine (time_m1 _).mono ?_; rintro e w' ⟨rfl, rfl⟩)))
  go_ret
  exact ⟨rfl, by assumption⟩
end Go.Proofs.Ytbchcggbdcifhaa
