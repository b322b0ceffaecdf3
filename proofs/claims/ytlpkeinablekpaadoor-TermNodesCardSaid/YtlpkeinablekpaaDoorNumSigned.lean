/- The contract of num.signed. -/
import Derived.Test.YtlpkeinablekpaaDoorKit
namespace Go.Proofs.YtlpkeinablekpaaDoor.Num
open Go.RowKit Go.Proofs.YtlpkeinablekpaaDoor

/-- What 'signed' answers. -/
def sgnV (a : Nat) (b : Bool) : Int := if b then (if 9223372036854775808 < a then 0 else -(a : Int)) else (if 9223372036854775807 < a then 0 else (a : Int))
def sgnB (a : Nat) (b : Bool) : Bool := if b then (if 9223372036854775808 < a then false else true) else (if 9223372036854775807 < a then false else true)
def Sgn (a : Nat) (b : Bool) (w : World) (e : Ending) (w' : World) : Prop := e = .returned (.tuple #[.int .i64 (sgnV a b), .bool (sgnB a b)]) ∧ w = w'
theorem sgn_no {a : Nat} {b : Bool} {w : World} (h : if b then 9223372036854775808 < a else 9223372036854775807 < a) : Sgn a b w (.returned (.tuple #[.int .i64 0, .bool false])) w := by
  unfold Sgn sgnV sgnB
  cases b <;> simp_all
theorem sgn_yes {a : Nat} {b : Bool} {w : World} {v : Int} (h : if b then a ≤ 9223372036854775808 ∧ v = -(a : Int) else a ≤ 9223372036854775807 ∧ v = a) : Sgn a b w (.returned (.tuple #[.int .i64 v, .bool true])) w := by
  unfold Sgn sgnV sgnB
  cases b
  · obtain ⟨h1, rfl⟩ := h; simp; omega
  · obtain ⟨h1, rfl⟩ := h; simp; omega
theorem back (a : Nat) (h : a ≤ 9223372036854775808) : wrap64 (IntKind.u64.wrap (-(a : Int))) = -(a : Int) := by simp only [IntKind.wrap_u64, wrap64]; omega
set_option maxHeartbeats 400000 in
theorem signed_any (a : Nat) (b : Bool) (w : World) (h0 : a < 18446744073709551616) :
    Calls Tryd.prog 84 #[.int .u64 a, .bool b] w (Sgn a b w) := by
  cases b
  · go_enter Tryd.func84, Tryd.ntmps84
    by_cases h : 9223372036854775807 < a
    · go_wp2
      go_ret2
      exact sgn_no h
    · have h' : a ≤ 9223372036854775807 := by omega
      clear h
      go_wp2
      go_ret2
      exact sgn_yes ⟨h', rfl⟩
  · go_enter Tryd.func84, Tryd.ntmps84
    by_cases h : 9223372036854775808 < a
    · go_wp2
      go_ret2
      exact sgn_no h
    · have h' : a ≤ 9223372036854775808 := by omega
      clear h
      go_wp2
      go_ret2
      exact sgn_yes ⟨h', back a h'⟩
end Go.Proofs.YtlpkeinablekpaaDoor.Num
