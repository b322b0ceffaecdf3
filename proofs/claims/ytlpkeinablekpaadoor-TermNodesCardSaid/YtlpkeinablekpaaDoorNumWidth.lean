/- The contract of num.width. -/
import Derived.Test.YtlpkeinablekpaaDoorKit
namespace Go.Proofs.YtlpkeinablekpaaDoor.Num
open Go.RowKit Go.Proofs.YtlpkeinablekpaaDoor
set_option maxRecDepth 100000

def widthN (n : Nat) : Nat := if n < 10 then 1 else widthN (n / 10) + 1
theorem widthN_le (k : Nat) : ∀ n, n < 10 ^ (k + 1) → widthN n ≤ k + 1 := by
  induction k with
  | zero => intro n hn; rw [widthN, if_pos (by simpa using hn)]; omega
  | succ k ih =>
    intro n hn
    rw [widthN]
    split
    · omega
    · have := ih (n / 10) (by rw [Nat.div_lt_iff_lt_mul (by omega)]; rw [Nat.pow_succ] at hn; omega)
      omega
theorem widthN_pos (n : Nat) : 1 ≤ widthN n := by rw [widthN]; split <;> omega
theorem widthN_20 {n : Nat} (h : n < 18446744073709551616) : widthN n ≤ 20 := widthN_le 19 n (by omega)
set_option maxHeartbeats 400000 in
theorem width_any (n : Nat) (w : World) (h0 : n < 18446744073709551616) :
    Calls Tryd.prog 69 #[.int .u64 n] w fun e w' => e = .returned (.int .i64 (widthN n)) ∧ w = w' := by
  have h20 := widthN_20 h0
  go_enter Tryd.func69, Tryd.ntmps69
  go_wp2
  go_loop [0, 3] (fun a c => ∃ m k : Nat, m ≤ n ∧ k + widthN m = widthN n + 1 ∧ a = .int .u64 m ∧ c = .int .i64 k) (fun a _ => (intOf a).toNat)
  case atStart => exact ⟨n, 1, by omega, by omega, rfl, rfl⟩
  case round =>
    obtain ⟨m, k, hm, hk, rfl, rfl⟩ := hrel
    have hp := widthN_pos m
    have HK := Lib.hid hk
    have hk2 : k ≤ 20 := by omega
    clear hk
    by_cases hc : m < 10
    · go_wp2
      go_ret
      exact ⟨ret_int (by have := HK.out; rw [widthN, if_pos hc] at this; omega), rfl⟩
    · have hc' : 10 ≤ m := by omega
      clear hc
      go_wp2
      go_round
      case rel => exact ⟨m / 10, k + 1, by omega, by have := HK.out; rw [widthN, if_neg (by omega)] at this; omega, by go_num, by go_num⟩
      case measure => simp [intOf]; omega
end Go.Proofs.YtlpkeinablekpaaDoor.Num
