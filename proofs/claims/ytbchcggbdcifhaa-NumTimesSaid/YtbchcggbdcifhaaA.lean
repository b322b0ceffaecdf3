/- Contracts of num's small functions and of the reference's halves: what each call returns; the world stays as it was. -/
import Derived.Test.YtbchcggbdcifhaaRows
import Derived.WalkKit
import Derived.WalkSpells
import Derived.WalkLawsBesides
import Derived.Handy
import Derived.Lib.Hide
namespace Go.Proofs.Ytbchcggbdcifhaa
open Go.RowKit

def TimeB (t : Int) : Bool := decide (0 ≤ t ∧ t ≤ 1099511627776)
theorem TimeB_true {t : Int} (h : TimeB t = true) : 0 ≤ t ∧ t ≤ 1099511627776 := by simpa [TimeB] using h
theorem TimeB_false {t : Int} (h : TimeB t = false) : t < 0 ∨ 1099511627776 < t := by simp [TimeB] at h; omega

set_option maxHeartbeats 400000 in
theorem time_any (t : Int) (w : World) :
    Calls Try.prog 17 #[.int .i64 t] w fun e w' => e = .returned (.bool (TimeB t)) ∧ w = w' := by
  by_cases h0 : 0 ≤ t <;> by_cases h1 : t ≤ 1099511627776
  all_goals
    go_enter Try.func17, Try.ntmps17
    go_wp2
    go_ret
    exact ⟨by simp [TimeB, *] <;> omega, rfl⟩

def inI (x : Int) : Bool := decide (-9223372036854775808 ≤ x ∧ x ≤ 9223372036854775807)
def cutI (x : Int) : Int := if -9223372036854775808 ≤ x ∧ x ≤ 9223372036854775807 then x else 0
theorem inI_yes {x : Int} (h : -9223372036854775808 ≤ x ∧ x ≤ 9223372036854775807) : inI x = true := by simp [inI, h]
theorem inI_no {x : Int} (h : ¬ (-9223372036854775808 ≤ x ∧ x ≤ 9223372036854775807)) : inI x = false := by simp only [inI, decide_eq_false_iff_not]; exact h
theorem cutI_yes {x : Int} (h : -9223372036854775808 ≤ x ∧ x ≤ 9223372036854775807) : cutI x = x := if_pos h
theorem cutI_no {x : Int} (h : ¬ (-9223372036854775808 ≤ x ∧ x ≤ 9223372036854775807)) : cutI x = 0 := if_neg h
def Two (x : Int) (w : World) (e : Ending) (w' : World) : Prop := e = .returned (.tuple #[.int .i64 (cutI x), .bool (inI x)]) ∧ w = w'
theorem two_yes {x : Int} {w : World} (h : -9223372036854775808 ≤ x ∧ x ≤ 9223372036854775807) : Two x w (.returned (.tuple #[.int .i64 x, .bool true])) w := ⟨by rw [cutI_yes h, inI_yes h], rfl⟩
theorem two_no {x : Int} {w : World} (h : ¬ (-9223372036854775808 ≤ x ∧ x ≤ 9223372036854775807)) : Two x w (.returned (.tuple #[.int .i64 0, .bool false])) w := ⟨by rw [cutI_no h, inI_no h], rfl⟩

set_option maxHeartbeats 400000 in
theorem add_any (a b : Int) (w : World) (h0 : -9223372036854775808 ≤ a) (h1 : a ≤ 9223372036854775807) (h2 : -9223372036854775808 ≤ b) (h3 : b ≤ 9223372036854775807) :
    Calls Try.prog 7 #[.int .i64 a, .int .i64 b] w (Two (a + b) w) := by
  go_enter Try.func7, Try.ntmps7
  by_cases g : -9223372036854775808 ≤ a + b ∧ a + b ≤ 9223372036854775807
  · go_wp2
    all_goals (go_ret2; first | exact two_yes g | omega)
  · go_wp2
    all_goals (go_ret2; first | exact two_no g | omega)

set_option maxHeartbeats 400000 in
theorem sub_any (a b : Int) (w : World) (h0 : -9223372036854775808 ≤ a) (h1 : a ≤ 9223372036854775807) (h2 : -9223372036854775808 ≤ b) (h3 : b ≤ 9223372036854775807) :
    Calls Try.prog 8 #[.int .i64 a, .int .i64 b] w (Two (a - b) w) := by
  go_enter Try.func8, Try.ntmps8
  by_cases g : -9223372036854775808 ≤ a - b ∧ a - b ≤ 9223372036854775807
  · go_wp2
    all_goals (go_ret2; first | exact two_yes g | omega)
  · go_wp2
    all_goals (go_ret2; first | exact two_no g | omega)

set_option maxHeartbeats 400000 in
theorem neg_any (a : Int) (w : World) (h0 : -9223372036854775808 ≤ a) (h1 : a ≤ 9223372036854775807) :
    Calls Try.prog 9 #[.int .i64 a] w (Two (0 - a) w) := by
  go_enter Try.func9, Try.ntmps9
  go_wp2_with (go_at_call 8; refine (sub_any _ _ _ (by omega) (by omega) (by omega) (by omega)).mono ?_; rintro e w' ⟨rfl, rfl⟩)
  go_ret2
  exact ⟨by rw [show (0 : Int) - a = -a from by omega]; rfl, rfl⟩

theorem ret_int' (k : IntKind) {a b : Int} (h : a = b) : Ending.returned (.int k a) = .returned (.int k b) := by rw [h]
def sizeN (n : Int) : Nat := n.natAbs
theorem size_pos {n : Int} (h : ¬ n < 0) : n = (sizeN n : Int) := by unfold sizeN; omega
theorem size_neg {n : Int} (h : n < 0) : -n = (sizeN n : Int) := by unfold sizeN; omega
theorem wrapneg {n : Int} (h0 : -9223372036854775808 ≤ n) (h1 : n < 0) : IntKind.u64.wrap (-(IntKind.u64.wrap n)) = -n := by simp only [IntKind.wrap_u64]; omega
theorem wrapid {n : Int} (h0 : 0 ≤ n) (h1 : n ≤ 9223372036854775807) : IntKind.u64.wrap n = n := by simp only [IntKind.wrap_u64]; omega
set_option maxHeartbeats 400000 in
theorem size_any (n : Int) (w : World) (h0 : -9223372036854775808 ≤ n) (h1 : n ≤ 9223372036854775807) :
    Calls Try.prog 21 #[.int .i64 n] w fun e w' => e = .returned (.int .u64 (sizeN n)) ∧ w = w' := by
  by_cases h : n < 0
  · have e1 := wrapneg h0 h
    have e2 := size_neg h
    go_enter Try.func21, Try.ntmps21
    go_wp2
    go_ret
    exact ⟨rfl, rfl⟩
  · go_enter Try.func21, Try.ntmps21
    go_wp2
    go_ret
    exact ⟨ret_int' .u64 (size_pos (by omega)), rfl⟩

def widthN (n : Nat) : Nat := if n < 10 then 1 else widthN (n / 10) + 1
theorem widthN_le (k : Nat) : ∀ n, n < 10 ^ (k + 1) → widthN n ≤ k + 1 := by
  induction k with
  | zero => intro n hn; rw [widthN, if_pos (by simpa using hn)]; omega
  | succ k ih =>
    intro n hn
    rw [widthN]
    split
    · omega
    · have := ih (n / 10) (by rw [Nat.div_lt_iff_lt_mul (by omega)]; rw [Nat.pow_succ] at hn; omega)
      omega
theorem widthN_pos (n : Nat) : 1 ≤ widthN n := by rw [widthN]; split <;> omega
theorem widthN_20 {n : Nat} (h : n < 18446744073709551616) : widthN n ≤ 20 := widthN_le 19 n (by omega)
theorem ret_int {k : IntKind} {a b : Int} (h : a = b) : Ending.returned (.int k a) = .returned (.int k b) := by rw [h]

set_option maxHeartbeats 400000 in
theorem width_any (n : Nat) (w : World) (h0 : n < 18446744073709551616) :
    Calls Try.prog 25 #[.int .u64 n] w fun e w' => e = .returned (.int .i64 (widthN n)) ∧ w = w' := by
  have h20 := widthN_20 h0
  go_enter Try.func25, Try.ntmps25
  go_wp2
  go_loop [0, 3] (fun a c => ∃ m k : Nat, m ≤ n ∧ k + widthN m = widthN n + 1 ∧ a = .int .u64 m ∧ c = .int .i64 k) (fun a _ => (intOf a).toNat)
  case atStart => exact ⟨n, 1, by omega, by omega, rfl, rfl⟩
  case round =>
    obtain ⟨m, k, hm, hk, rfl, rfl⟩ := hrel
    have hp := widthN_pos m
    have HK := Lib.hid hk
    have hk2 : k ≤ 20 := by omega
    clear hk
    by_cases hc : m < 10
    · go_wp2
      go_ret
      exact ⟨ret_int (by have := HK.out; rw [widthN, if_pos hc] at this; omega), rfl⟩
    · have hc' : 10 ≤ m := by omega
      clear hc
      go_wp2
      go_round
      case rel => exact ⟨m / 10, k + 1, by omega, by have := HK.out; rw [widthN, if_neg (by omega)] at this; omega, by go_num, by go_num⟩
      case measure => simp [intOf]; omega

theorem tmod_neg {n : Int} (h : n < 0) : n.tmod 4294967296 = -((-n) % 4294967296) := by
  rw [show n = -(-n) from by omega, Int.neg_tmod, Int.tmod_eq_emod_of_nonneg (by omega)]
  simp
theorem tdiv_neg {n : Int} (h : n ≤ 0) : n.tdiv 4294967296 = -((-n) / 4294967296) := by
  rw [show n = -(-n) from by omega, Int.neg_tdiv, Int.tdiv_eq_ediv_of_nonneg (by omega)]
  simp
theorem ret_two {a b c d : Int} (h : a = c) (g : b = d) : Ending.returned (.tuple #[.int .i64 a, .int .i64 b]) = .returned (.tuple #[.int .i64 c, .int .i64 d]) := by rw [h, g]

set_option maxHeartbeats 400000 in
theorem half_any (n : Int) (w : World) (h0 : -9223372036854775808 ≤ n) (h1 : n ≤ 9223372036854775807) :
    Calls Try.prog 19 #[.int .i64 n] w fun e w' => e = .returned (.tuple #[.int .i64 (n / 4294967296), .int .i64 (n % 4294967296)]) ∧ w = w' := by
  by_cases h : 0 ≤ n
  · go_enter Try.func19, Try.ntmps19
    go_wp2
    go_ret2
    exact ⟨ret_two (by omega) rfl, rfl⟩
  · have hd : (n - n % 4294967296).tdiv 4294967296 = n / 4294967296 := by rw [tdiv_neg (by omega)]; omega
    have hr : -n % 4294967296 = 0 ∨ 0 < -n % 4294967296 := by omega
    have e1 := tmod_neg (n := n) (by omega)
    rcases hr with hr | hr
    · have e2 : n.tmod 4294967296 = 0 := by rw [e1, hr]; rfl
      have e3 : n.tdiv 4294967296 = n / 4294967296 := by rw [tdiv_neg (by omega)]; omega
      have e4 : n % 4294967296 = 0 := by omega
      clear e1 hr hd
      go_enter Try.func19, Try.ntmps19
      go_wp2
      go_ret2
      exact ⟨rfl, rfl⟩
    · go_enter Try.func19, Try.ntmps19
      go_wp2
      go_ret2
      have e5 : -(-n % 4294967296) + 4294967296 = n % 4294967296 := by omega
      exact ⟨ret_two (by rw [e5]; exact hd) e5, rfl⟩

def High (S : Int) (w : World) (e : Ending) (w' : World) : Prop := e = .returned (.bool (inI S)) ∧ w = w'
theorem ret_bool {a b : Bool} (h : a = b) : Ending.returned (.bool a) = .returned (.bool b) := by rw [h]
theorem high_yes {S l h : Int} (e : l + h * 4294967296 = S) (h0 : 0 ≤ l) (h1 : l < 4294967296) (g : -2147483648 ≤ h ∧ h ≤ 2147483647) : inI S = true := inI_yes (by omega)
theorem high_no {S l h : Int} (e : l + h * 4294967296 = S) (h0 : 0 ≤ l) (h1 : l < 4294967296) (g : h < -2147483648 ∨ 2147483647 < h) : inI S = false := inI_no (by omega)

set_option maxHeartbeats 400000 in
theorem fits_add (a b : Int) (w : World) (h0 : -9223372036854775808 ≤ a) (h1 : a ≤ 9223372036854775807) (h2 : -9223372036854775808 ≤ b) (h3 : b ≤ 9223372036854775807) :
    Calls Try.prog 10 #[.int .i64 a, .int .i64 b, .bool false] w (High (a + b) w) := by
  go_enter Try.func10, Try.ntmps10
  go_wp2_with (go_at_call 19; refine (half_any _ _ (by omega) (by omega)).mono ?_; rintro e w' ⟨rfl, rfl⟩)
  go_loop [11, 12] (fun x y => ∃ l h : Int, Hid (l + h * 4294967296 = a + b) ∧ -4294967296 ≤ l ∧ l ≤ 8589934590 ∧ x = .int .i64 l ∧ y = .int .i64 h) (fun x _ => (intOf x).toNat)
  case atStart => exact ⟨_, _, by unfold Hid; omega, by omega, by omega, rfl, rfl⟩
  case round =>
    obtain ⟨l, h, he, hl0, hl1, rfl, rfl⟩ := hrel
    have hh0 : -4294967300 ≤ h := by have := he.out; omega
    have hh1 : h ≤ 4294967300 := by have := he.out; omega
    by_cases hc : 4294967296 ≤ l
    · go_wp2
      go_round
      case rel => exact ⟨l - 4294967296, h + 1, by have := he.out; unfold Hid; omega, by omega, by omega, by go_num, by go_num⟩
      case measure => simp [intOf]; omega
    · have hc' : l < 4294967296 := by omega
      clear hc
      go_wp2
      go_loop [11, 12] (fun x y => ∃ l h : Int, Hid (l + h * 4294967296 = a + b) ∧ -4294967296 ≤ l ∧ l < 4294967296 ∧ x = .int .i64 l ∧ y = .int .i64 h) (fun x _ => (4294967296 - intOf x).toNat)
      case atStart => exact ⟨l, h, he, by omega, by omega, rfl, rfl⟩
      case round =>
        clear he hl0 hl1 hc' hh0 hh1
        obtain ⟨m, g, he, hl0, hl1, rfl, rfl⟩ := hrel
        have hh0 : -4294967300 ≤ g := by have := he.out; omega
        have hh1 : g ≤ 4294967300 := by have := he.out; omega
        by_cases hc : m < 0
        · go_wp2
          go_round
          case rel => exact ⟨m + 4294967296, g - 1, by have := he.out; unfold Hid; omega, by omega, by omega, by go_num, by go_num⟩
          case measure => simp [intOf]; omega
        · have hc' : 0 ≤ m := by omega
          clear hc
          by_cases g0 : -2147483648 ≤ g
          · by_cases g1 : g ≤ 2147483647
            · go_wp2
              go_ret
              exact ⟨ret_bool (high_yes he.out hc' hl1 ⟨g0, g1⟩).symm, rfl⟩
            · have g2 : 2147483647 < g := by omega
              clear g1
              go_wp2
              go_ret
              exact ⟨ret_bool (by rw [high_no he.out hc' hl1 (.inr g2)]; exact decide_eq_false (by omega)), rfl⟩
          · have g2 : g < -2147483648 := by omega
            clear g0
            go_wp2
            go_ret
            exact ⟨ret_bool (high_no he.out hc' hl1 (.inl g2)).symm, rfl⟩

set_option maxHeartbeats 400000 in
theorem fits_sub (a b : Int) (w : World) (h0 : -9223372036854775808 ≤ a) (h1 : a ≤ 9223372036854775807) (h2 : -9223372036854775808 ≤ b) (h3 : b ≤ 9223372036854775807) :
    Calls Try.prog 10 #[.int .i64 a, .int .i64 b, .bool true] w (High (a - b) w) := by
  go_enter Try.func10, Try.ntmps10
  go_wp2_with (go_at_call 19; refine (half_any _ _ (by omega) (by omega)).mono ?_; rintro e w' ⟨rfl, rfl⟩)
  go_loop [11, 12] (fun x y => ∃ l h : Int, Hid (l + h * 4294967296 = a - b) ∧ -4294967296 ≤ l ∧ l ≤ 8589934590 ∧ x = .int .i64 l ∧ y = .int .i64 h) (fun x _ => (intOf x).toNat)
  case atStart => exact ⟨_, _, by unfold Hid; omega, by omega, by omega, rfl, rfl⟩
  case round =>
    obtain ⟨l, h, he, hl0, hl1, rfl, rfl⟩ := hrel
    have hh0 : -4294967300 ≤ h := by have := he.out; omega
    have hh1 : h ≤ 4294967300 := by have := he.out; omega
    by_cases hc : 4294967296 ≤ l
    · go_wp2
      go_round
      case rel => exact ⟨l - 4294967296, h + 1, by have := he.out; unfold Hid; omega, by omega, by omega, by go_num, by go_num⟩
      case measure => simp [intOf]; omega
    · have hc' : l < 4294967296 := by omega
      clear hc
      go_wp2
      go_loop [11, 12] (fun x y => ∃ l h : Int, Hid (l + h * 4294967296 = a - b) ∧ -4294967296 ≤ l ∧ l < 4294967296 ∧ x = .int .i64 l ∧ y = .int .i64 h) (fun x _ => (4294967296 - intOf x).toNat)
      case atStart => exact ⟨l, h, he, by omega, by omega, rfl, rfl⟩
      case round =>
        clear he hl0 hl1 hc' hh0 hh1
        obtain ⟨m, g, he, hl0, hl1, rfl, rfl⟩ := hrel
        have hh0 : -4294967300 ≤ g := by have := he.out; omega
        have hh1 : g ≤ 4294967300 := by have := he.out; omega
        by_cases hc : m < 0
        · go_wp2
          go_round
          case rel => exact ⟨m + 4294967296, g - 1, by have := he.out; unfold Hid; omega, by omega, by omega, by go_num, by go_num⟩
          case measure => simp [intOf]; omega
        · have hc' : 0 ≤ m := by omega
          clear hc
          by_cases g0 : -2147483648 ≤ g
          · by_cases g1 : g ≤ 2147483647
            · go_wp2
              go_ret
              exact ⟨ret_bool (high_yes he.out hc' hl1 ⟨g0, g1⟩).symm, rfl⟩
            · have g2 : 2147483647 < g := by omega
              clear g1
              go_wp2
              go_ret
              exact ⟨ret_bool (by rw [high_no he.out hc' hl1 (.inr g2)]; exact decide_eq_false (by omega)), rfl⟩
          · have g2 : g < -2147483648 := by omega
            clear g0
            go_wp2
            go_ret
            exact ⟨ret_bool (high_no he.out hc' hl1 (.inl g2)).symm, rfl⟩

end Go.Proofs.Ytbchcggbdcifhaa
