/- The law's own class of a byte: the same number. -/
import Derived.Test.YtolbjbgeddjbaaaTextClass
namespace Go.Proofs.Ytolbjbgeddjbaaa.Text
open Go.RowKit Go.Proofs.Ytolbjbgeddjbaaa

set_option maxHeartbeats 2000000 in
theorem lclass_way (c r : Int) (w : World) (h0 : 0 ≤ c) (h1 : c ≤ 255) (hw : Way c r) :
    Calls Try.prog 21 #[.int .u8 c] w fun e w' => e = .returned (.int .i64 r) ∧ w = w' := by
  cases hw
  case b32 h => subst h; go_enter Try.func21, Try.ntmps21; go_wp2; go_ret; exact ⟨rfl, rfl⟩
  case b9 h => subst h; go_enter Try.func21, Try.ntmps21; go_wp2; go_ret; exact ⟨rfl, rfl⟩
  case b10 h => subst h; go_enter Try.func21, Try.ntmps21; go_wp2; go_ret; exact ⟨rfl, rfl⟩
  case line h => subst h; go_enter Try.func21, Try.ntmps21; go_wp2; go_ret; exact ⟨rfl, rfl⟩
  case mark h => subst h; go_enter Try.func21, Try.ntmps21; go_wp2; go_ret; exact ⟨rfl, rfl⟩
  case low h3 h4 =>
    have e32 := ne_false (show c ≠ 32 by omega)
    have e9 := ne_false (show c ≠ 9 by omega)
    have e10 := ne_false (show c ≠ 10 by omega)
    have e39 := ne_false (show c ≠ 39 by omega)
    have e40 := ne_false (show c ≠ 40 by omega)
    have e41 := ne_false (show c ≠ 41 by omega)
    have e123 := ne_false (show c ≠ 123 by omega)
    have e125 := ne_false (show c ≠ 125 by omega)
    have e44 := ne_false (show c ≠ 44 by omega)
    have e46 := ne_false (show c ≠ 46 by omega)
    have e59 := ne_false (show c ≠ 59 by omega)
    have e58 := ne_false (show c ≠ 58 by omega)
    have e124 := ne_false (show c ≠ 124 by omega)
    have e33 := ne_false (show c ≠ 33 by omega)
    have e43 := ne_false (show c ≠ 43 by omega)
    have e45 := ne_false (show c ≠ 45 by omega)
    have e42 := ne_false (show c ≠ 42 by omega)
    have e61 := ne_false (show c ≠ 61 by omega)
    have e60 := ne_false (show c ≠ 60 by omega)
    have e62 := ne_false (show c ≠ 62 by omega)
    have e47 := ne_false (show c ≠ 47 by omega)
    go_enter Try.func21, Try.ntmps21; go_wp2; go_ret; exact ⟨rfl, rfl⟩
  case up h3 h4 =>
    have e32 := ne_false (show c ≠ 32 by omega)
    have e9 := ne_false (show c ≠ 9 by omega)
    have e10 := ne_false (show c ≠ 10 by omega)
    have e39 := ne_false (show c ≠ 39 by omega)
    have e40 := ne_false (show c ≠ 40 by omega)
    have e41 := ne_false (show c ≠ 41 by omega)
    have e123 := ne_false (show c ≠ 123 by omega)
    have e125 := ne_false (show c ≠ 125 by omega)
    have e44 := ne_false (show c ≠ 44 by omega)
    have e46 := ne_false (show c ≠ 46 by omega)
    have e59 := ne_false (show c ≠ 59 by omega)
    have e58 := ne_false (show c ≠ 58 by omega)
    have e124 := ne_false (show c ≠ 124 by omega)
    have e33 := ne_false (show c ≠ 33 by omega)
    have e43 := ne_false (show c ≠ 43 by omega)
    have e45 := ne_false (show c ≠ 45 by omega)
    have e42 := ne_false (show c ≠ 42 by omega)
    have e61 := ne_false (show c ≠ 61 by omega)
    have e60 := ne_false (show c ≠ 60 by omega)
    have e62 := ne_false (show c ≠ 62 by omega)
    have e47 := ne_false (show c ≠ 47 by omega)
    go_enter Try.func21, Try.ntmps21; go_wp2; go_ret; exact ⟨rfl, rfl⟩
  case dig h3 h4 =>
    have e32 := ne_false (show c ≠ 32 by omega)
    have e9 := ne_false (show c ≠ 9 by omega)
    have e10 := ne_false (show c ≠ 10 by omega)
    have e39 := ne_false (show c ≠ 39 by omega)
    have e40 := ne_false (show c ≠ 40 by omega)
    have e41 := ne_false (show c ≠ 41 by omega)
    have e123 := ne_false (show c ≠ 123 by omega)
    have e125 := ne_false (show c ≠ 125 by omega)
    have e44 := ne_false (show c ≠ 44 by omega)
    have e46 := ne_false (show c ≠ 46 by omega)
    have e59 := ne_false (show c ≠ 59 by omega)
    have e58 := ne_false (show c ≠ 58 by omega)
    have e124 := ne_false (show c ≠ 124 by omega)
    have e33 := ne_false (show c ≠ 33 by omega)
    have e43 := ne_false (show c ≠ 43 by omega)
    have e45 := ne_false (show c ≠ 45 by omega)
    have e42 := ne_false (show c ≠ 42 by omega)
    have e61 := ne_false (show c ≠ 61 by omega)
    have e60 := ne_false (show c ≠ 60 by omega)
    have e62 := ne_false (show c ≠ 62 by omega)
    have e47 := ne_false (show c ≠ 47 by omega)
    have e95 := ne_false (show c ≠ 95 by omega)
    have f1 : c < 97 := by omega
    have f2 : c < 65 := by omega
    go_enter Try.func21, Try.ntmps21; go_wp2; go_ret; exact ⟨rfl, rfl⟩
  case sign h =>
    simp at h
    rcases h with rfl | rfl | rfl | rfl | rfl | rfl | rfl | rfl | rfl | rfl | rfl | rfl | rfl | rfl | rfl | rfl | rfl
    all_goals (go_enter Try.func21, Try.ntmps21; go_wp2; go_ret; exact ⟨rfl, rfl⟩)
  case bad h h2 h3 h4 =>
    have e32 := ne_false (h 32 (by decide))
    have e9 := ne_false (h 9 (by decide))
    have e10 := ne_false (h 10 (by decide))
    have e39 := ne_false (h 39 (by decide))
    have e40 := ne_false (h 40 (by decide))
    have e41 := ne_false (h 41 (by decide))
    have e123 := ne_false (h 123 (by decide))
    have e125 := ne_false (h 125 (by decide))
    have e44 := ne_false (h 44 (by decide))
    have e46 := ne_false (h 46 (by decide))
    have e59 := ne_false (h 59 (by decide))
    have e58 := ne_false (h 58 (by decide))
    have e124 := ne_false (h 124 (by decide))
    have e33 := ne_false (h 33 (by decide))
    have e43 := ne_false (h 43 (by decide))
    have e45 := ne_false (h 45 (by decide))
    have e42 := ne_false (h 42 (by decide))
    have e61 := ne_false (h 61 (by decide))
    have e60 := ne_false (h 60 (by decide))
    have e62 := ne_false (h 62 (by decide))
    have e47 := ne_false (h 47 (by decide))
    have e95 := ne_false (h 95 (by decide))
    clear h
    rcases h2 with h2 | h2 <;> rcases h3 with h3 | h3 <;> rcases h4 with h4 | h4 <;> first | (exfalso; omega) | skip
    all_goals (go_enter Try.func21, Try.ntmps21; go_wp2; go_ret; exact ⟨rfl, rfl⟩)
theorem lclass_any (c : Int) (w : World) (h0 : 0 ≤ c) (h1 : c ≤ 255) :
    Calls Try.prog 21 #[.int .u8 c] w fun e w' => e = .returned (.int .i64 (clsV c)) ∧ w = w' := lclass_way c _ w h0 h1 (way_any c)
end Go.Proofs.Ytolbjbgeddjbaaa.Text
