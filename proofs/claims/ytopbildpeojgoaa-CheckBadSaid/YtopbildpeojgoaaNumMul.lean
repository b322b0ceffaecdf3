/- Texts put together: NumInt, NumAdd, NumSub, NumNeg, NumSize, NumSigned, MulW, NumMul. -/
import Derived.Test.YtopbildpeojgoaaKit
import Derived.Lib.Mul64
import Derived.Laws.Bits64b
section
namespace Go.Proofs.Ytopbildpeojgoaa.Num
open Go.RowKit Go.Proofs.Ytopbildpeojgoaa

def inI (x : Int) : Bool := decide (-9223372036854775808 ≤ x ∧ x ≤ 9223372036854775807)
def cutI (x : Int) : Int := if -9223372036854775808 ≤ x ∧ x ≤ 9223372036854775807 then x else 0
theorem inI_yes {x : Int} (h : -9223372036854775808 ≤ x ∧ x ≤ 9223372036854775807) : inI x = true := by simp [inI, h]
theorem inI_no {x : Int} (h : ¬ (-9223372036854775808 ≤ x ∧ x ≤ 9223372036854775807)) : inI x = false := by simp only [inI, decide_eq_false_iff_not]; exact h
theorem cutI_yes {x : Int} (h : -9223372036854775808 ≤ x ∧ x ≤ 9223372036854775807) : cutI x = x := if_pos h
theorem cutI_no {x : Int} (h : ¬ (-9223372036854775808 ≤ x ∧ x ≤ 9223372036854775807)) : cutI x = 0 := if_neg h
def Two (x : Int) (w : World) (e : Ending) (w' : World) : Prop := e = .returned (.tuple #[.int .i64 (cutI x), .bool (inI x)]) ∧ w = w'
theorem two_yes {x : Int} {w : World} (h : -9223372036854775808 ≤ x ∧ x ≤ 9223372036854775807) : Two x w (.returned (.tuple #[.int .i64 x, .bool true])) w := ⟨by rw [cutI_yes h, inI_yes h], rfl⟩
theorem two_no {x : Int} {w : World} (h : ¬ (-9223372036854775808 ≤ x ∧ x ≤ 9223372036854775807)) : Two x w (.returned (.tuple #[.int .i64 0, .bool false])) w := ⟨by rw [cutI_no h, inI_no h], rfl⟩
def Yes (x : Int) : Prop := -9223372036854775808 ≤ x ∧ x ≤ 9223372036854775807
end Go.Proofs.Ytopbildpeojgoaa.Num
end

section
namespace Go.Proofs.Ytopbildpeojgoaa.Num
open Go.RowKit Go.Proofs.Ytopbildpeojgoaa

set_option maxHeartbeats 400000 in
theorem add_any (a b : Int) (w : World) (h0 : -9223372036854775808 ≤ a) (h1 : a ≤ 9223372036854775807) (h2 : -9223372036854775808 ≤ b) (h3 : b ≤ 9223372036854775807) :
    Calls Try.prog 220 #[.int .i64 a, .int .i64 b] w (Two (a + b) w) := by
  go_enter Try.func220, Try.ntmps220
  by_cases g : -9223372036854775808 ≤ a + b ∧ a + b ≤ 9223372036854775807
  · go_wp2
    all_goals (go_ret2; first | exact two_yes g | omega)
  · go_wp2
    all_goals (go_ret2; first | exact two_no g | omega)
theorem add_yes (a b : Int) (w : World) (h0 : -9223372036854775808 ≤ a) (h1 : a ≤ 9223372036854775807) (h2 : -9223372036854775808 ≤ b) (h3 : b ≤ 9223372036854775807) (g : Yes (a + b)) :
    Calls Try.prog 220 #[.int .i64 a, .int .i64 b] w fun e w' => e = .returned (.tuple #[.int .i64 (a + b), .bool true]) ∧ w = w' :=
  (add_any a b w h0 h1 h2 h3).mono fun _ _ ⟨e1, e2⟩ => ⟨e1.trans (by rw [cutI_yes g, inI_yes g]), e2⟩
theorem add_no (a b : Int) (w : World) (h0 : -9223372036854775808 ≤ a) (h1 : a ≤ 9223372036854775807) (h2 : -9223372036854775808 ≤ b) (h3 : b ≤ 9223372036854775807) (g : ¬ Yes (a + b)) :
    Calls Try.prog 220 #[.int .i64 a, .int .i64 b] w fun e w' => e = .returned (.tuple #[.int .i64 0, .bool false]) ∧ w = w' :=
  (add_any a b w h0 h1 h2 h3).mono fun _ _ ⟨e1, e2⟩ => ⟨e1.trans (by rw [cutI_no g, inI_no g]), e2⟩
end Go.Proofs.Ytopbildpeojgoaa.Num
end

section
namespace Go.Proofs.Ytopbildpeojgoaa.Num
open Go.RowKit Go.Proofs.Ytopbildpeojgoaa

set_option maxHeartbeats 400000 in
theorem sub_any (a b : Int) (w : World) (h0 : -9223372036854775808 ≤ a) (h1 : a ≤ 9223372036854775807) (h2 : -9223372036854775808 ≤ b) (h3 : b ≤ 9223372036854775807) :
    Calls Try.prog 221 #[.int .i64 a, .int .i64 b] w (Two (a - b) w) := by
  go_enter Try.func221, Try.ntmps221
  by_cases g : -9223372036854775808 ≤ a - b ∧ a - b ≤ 9223372036854775807
  · go_wp2
    all_goals (go_ret2; first | exact two_yes g | omega)
  · go_wp2
    all_goals (go_ret2; first | exact two_no g | omega)
theorem sub_yes (a b : Int) (w : World) (h0 : -9223372036854775808 ≤ a) (h1 : a ≤ 9223372036854775807) (h2 : -9223372036854775808 ≤ b) (h3 : b ≤ 9223372036854775807) (g : Yes (a - b)) :
    Calls Try.prog 221 #[.int .i64 a, .int .i64 b] w fun e w' => e = .returned (.tuple #[.int .i64 (a - b), .bool true]) ∧ w = w' :=
  (sub_any a b w h0 h1 h2 h3).mono fun _ _ ⟨e1, e2⟩ => ⟨e1.trans (by rw [cutI_yes g, inI_yes g]), e2⟩
theorem sub_no (a b : Int) (w : World) (h0 : -9223372036854775808 ≤ a) (h1 : a ≤ 9223372036854775807) (h2 : -9223372036854775808 ≤ b) (h3 : b ≤ 9223372036854775807) (g : ¬ Yes (a - b)) :
    Calls Try.prog 221 #[.int .i64 a, .int .i64 b] w fun e w' => e = .returned (.tuple #[.int .i64 0, .bool false]) ∧ w = w' :=
  (sub_any a b w h0 h1 h2 h3).mono fun _ _ ⟨e1, e2⟩ => ⟨e1.trans (by rw [cutI_no g, inI_no g]), e2⟩
end Go.Proofs.Ytopbildpeojgoaa.Num
end

section
namespace Go.Proofs.Ytopbildpeojgoaa.Num
open Go.RowKit Go.Proofs.Ytopbildpeojgoaa

set_option maxHeartbeats 400000 in
theorem neg_any (a : Int) (w : World) (h0 : -9223372036854775808 ≤ a) (h1 : a ≤ 9223372036854775807) :
    Calls Try.prog 219 #[.int .i64 a] w (Two (0 - a) w) := by
  go_enter Try.func219, Try.ntmps219
  go_wp2_with (go_at_call 221; refine (sub_any _ _ _ (by omega) (by omega) (by omega) (by omega)).mono ?_; rintro e w' ⟨rfl, rfl⟩)
  go_ret2
  exact ⟨by rw [show (0 : Int) - a = -a from by omega]; rfl, rfl⟩
theorem neg_yes (a : Int) (w : World) (h0 : -9223372036854775808 < a) (h1 : a ≤ 9223372036854775807) :
    Calls Try.prog 219 #[.int .i64 a] w fun e w' => e = .returned (.tuple #[.int .i64 (-a), .bool true]) ∧ w = w' :=
  (neg_any a w (by omega) h1).mono fun _ _ ⟨e1, e2⟩ => ⟨e1.trans (by rw [cutI_yes (by omega), inI_yes (by omega), Int.zero_sub]), e2⟩
theorem neg_no (w : World) :
    Calls Try.prog 219 #[.int .i64 (-9223372036854775808)] w fun e w' => e = .returned (.tuple #[.int .i64 0, .bool false]) ∧ w = w' :=
  (neg_any _ w (by omega) (by omega)).mono fun _ _ ⟨e1, e2⟩ => ⟨e1.trans (by rw [cutI_no (by omega), inI_no (by omega)]), e2⟩
end Go.Proofs.Ytopbildpeojgoaa.Num
end

section
namespace Go.Proofs.Ytopbildpeojgoaa.Num
open Go.RowKit Go.Proofs.Ytopbildpeojgoaa

def sizeN (n : Int) : Nat := n.natAbs
theorem size_pos {n : Int} (h : ¬ n < 0) : n = (sizeN n : Int) := by unfold sizeN; omega
theorem size_neg {n : Int} (h : n < 0) : -n = (sizeN n : Int) := by unfold sizeN; omega
theorem wrapneg {n : Int} (h0 : -9223372036854775808 ≤ n) (h1 : n < 0) : IntKind.u64.wrap (-(IntKind.u64.wrap n)) = -n := by simp only [IntKind.wrap_u64]; omega
theorem wrapid {n : Int} (h0 : 0 ≤ n) (h1 : n ≤ 9223372036854775807) : IntKind.u64.wrap n = n := by simp only [IntKind.wrap_u64]; omega
set_option maxHeartbeats 400000 in
theorem size_any (n : Int) (w : World) (h0 : -9223372036854775808 ≤ n) (h1 : n ≤ 9223372036854775807) :
    Calls Try.prog 235 #[.int .i64 n] w fun e w' => e = .returned (.int .u64 (sizeN n)) ∧ w = w' := by
  by_cases h : n < 0
  · have e1 := wrapneg h0 h
    have e2 := size_neg h
    go_enter Try.func235, Try.ntmps235
    go_wp2
    go_ret
    exact ⟨rfl, rfl⟩
  · go_enter Try.func235, Try.ntmps235
    go_wp2
    go_ret
    exact ⟨ret_int' .u64 (size_pos (by omega)), rfl⟩
end Go.Proofs.Ytopbildpeojgoaa.Num
end

section
namespace Go.Proofs.Ytopbildpeojgoaa.Num
open Go.RowKit Go.Proofs.Ytopbildpeojgoaa

/-- What 'signed' answers. -/
def sgnV (a : Nat) (b : Bool) : Int := if b then (if 9223372036854775808 < a then 0 else -(a : Int)) else (if 9223372036854775807 < a then 0 else (a : Int))
def sgnB (a : Nat) (b : Bool) : Bool := if b then (if 9223372036854775808 < a then false else true) else (if 9223372036854775807 < a then false else true)
def Sgn (a : Nat) (b : Bool) (w : World) (e : Ending) (w' : World) : Prop := e = .returned (.tuple #[.int .i64 (sgnV a b), .bool (sgnB a b)]) ∧ w = w'
theorem sgn_no {a : Nat} {b : Bool} {w : World} (h : if b then 9223372036854775808 < a else 9223372036854775807 < a) : Sgn a b w (.returned (.tuple #[.int .i64 0, .bool false])) w := by
  unfold Sgn sgnV sgnB
  cases b <;> simp_all
theorem sgn_yes {a : Nat} {b : Bool} {w : World} {v : Int} (h : if b then a ≤ 9223372036854775808 ∧ v = -(a : Int) else a ≤ 9223372036854775807 ∧ v = a) : Sgn a b w (.returned (.tuple #[.int .i64 v, .bool true])) w := by
  unfold Sgn sgnV sgnB
  cases b
  · obtain ⟨h1, rfl⟩ := h; simp; omega
  · obtain ⟨h1, rfl⟩ := h; simp; omega
theorem back (a : Nat) (h : a ≤ 9223372036854775808) : wrap64 (IntKind.u64.wrap (-(a : Int))) = -(a : Int) := by simp only [IntKind.wrap_u64, wrap64]; omega
set_option maxHeartbeats 400000 in
theorem signed_any (a : Nat) (b : Bool) (w : World) (h0 : a < 18446744073709551616) :
    Calls Try.prog 236 #[.int .u64 a, .bool b] w (Sgn a b w) := by
  cases b
  · go_enter Try.func236, Try.ntmps236
    by_cases h : 9223372036854775807 < a
    · go_wp2
      go_ret2
      exact sgn_no h
    · have h' : a ≤ 9223372036854775807 := by omega
      clear h
      go_wp2
      go_ret2
      exact sgn_yes ⟨h', rfl⟩
  · go_enter Try.func236, Try.ntmps236
    by_cases h : 9223372036854775808 < a
    · go_wp2
      go_ret2
      exact sgn_no h
    · have h' : a ≤ 9223372036854775808 := by omega
      clear h
      go_wp2
      go_ret2
      exact sgn_yes ⟨h', back a h'⟩
end Go.Proofs.Ytopbildpeojgoaa.Num
end

section
namespace Go.Proofs.Ytopbildpeojgoaa.Num
open Go.RowKit Go.Proofs.Ytopbildpeojgoaa
set_option linter.unusedVariables false
theorem low32 (a : Nat) (ha : a < 18446744073709551616) : bits .and .u64 (a : Int) 4294967295 = ((a % 4294967296 : Nat) : Int) := by
  have h := bits_and_u64_nat a 4294967295 ha (by omega)
  rw [show a &&& 4294967295 = a % 4294967296 from Nat.and_two_pow_sub_one_eq_mod a 32] at h
  exact h
theorem high32 (a : Nat) : (a : Int) / 4294967296 = ((a / 4294967296 : Nat) : Int) := by omega
theorem nmul (a b : Nat) : (a : Int) * (b : Int) = ((a * b : Nat) : Int) := (Int.natCast_mul a b).symm
theorem nadd (a b : Nat) : (a : Int) + (b : Int) = ((a + b : Nat) : Int) := (Int.natCast_add a b).symm
theorem nwrap (a : Nat) (ha : a < 18446744073709551616) : IntKind.u64.wrap (a : Int) = (a : Int) := by rw [IntKind.wrap_u64]; omega
theorem nwrapm (a : Nat) : IntKind.u64.wrap (a : Int) = ((a % 18446744073709551616 : Nat) : Int) := by rw [IntKind.wrap_u64]; omega
set_option maxHeartbeats 1000000 in
theorem mul64_walk (x y : Nat) (w : World) (hx : x < 18446744073709551616) (hy : y < 18446744073709551616) :
    Calls Try.prog 234 #[.int .u64 (x : Int), .int .u64 (y : Int)] w fun e w' => e = .returned (.tuple #[.int .u64 ((x * y / 18446744073709551616 : Nat) : Int), .int .u64 ((x * y % 18446744073709551616 : Nat) : Int)]) ∧ w = w' := by
  obtain ⟨b1, b2, b3, b4⟩ := Lib.mul64_hi x y hx hy
  have q1 := Lib.half_mul_le (a := x / 4294967296) (b := y / 4294967296) (by omega) (by omega)
  have q2 := Lib.half_mul_le (a := x / 4294967296) (b := y % 4294967296) (by omega) (by omega)
  have q3 := Lib.half_mul_le (a := x % 4294967296) (b := y / 4294967296) (by omega) (by omega)
  have p1 : x / 4294967296 * (y / 4294967296) < 18446744073709551616 := by omega
  have p2 : x / 4294967296 * (y % 4294967296) < 18446744073709551616 := by omega
  have p3 : x % 4294967296 * (y / 4294967296) < 18446744073709551616 := by omega
  have s1 : x / 4294967296 * (y / 4294967296) + (x / 4294967296 * (y % 4294967296) + x % 4294967296 * (y % 4294967296) / 4294967296) / 4294967296 < 18446744073709551616 := by omega
  have s2 : x / 4294967296 * (y / 4294967296) + (x / 4294967296 * (y % 4294967296) + x % 4294967296 * (y % 4294967296) / 4294967296) / 4294967296 + ((x / 4294967296 * (y % 4294967296) + x % 4294967296 * (y % 4294967296) / 4294967296) % 4294967296 + x % 4294967296 * (y / 4294967296)) / 4294967296 < 18446744073709551616 := by omega
  go_enter Try.func234, Try.ntmps234
  go_wp2
  simp only [low32 x hx, low32 y hy, high32, nmul, nadd, nwrap _ b1, nwrap _ p2, nwrap _ b2, low32 _ b2, nwrap _ p3, nwrap _ b3, nwrap _ p1, nwrap _ s1, nwrap _ s2, nwrapm (x * y)]
  rw [b4]
  go_ret2
  exact ⟨rfl, rfl⟩
end Go.Proofs.Ytopbildpeojgoaa.Num
end

section
namespace Go.Proofs.Ytopbildpeojgoaa.Num
open Go.RowKit Go.Proofs.Ytopbildpeojgoaa

theorem mul64_any (x y : Nat) (w : World) (hx : x < 18446744073709551616) (hy : y < 18446744073709551616) :
    Calls Try.prog 234 #[.int .u64 (x : Int), .int .u64 (y : Int)] w fun e w' => e = .returned (.tuple #[.int .u64 ((x * y / 18446744073709551616 : Nat) : Int), .int .u64 ((x * y % 18446744073709551616 : Nat) : Int)]) ∧ w = w' :=
  mul64_walk x y w hx hy
theorem size_mul (a b : Int) : sizeN a * sizeN b = (a * b).natAbs := by unfold sizeN; exact (Int.natAbs_mul a b).symm
/-- An amount and a sign make a product of 64 bits just where it is one. -/
theorem sgn_mul {a b : Int} {m : Nat} (hm : m = (a * b).natAbs) (hlt : m < 18446744073709551616) (w : World) (e : Ending) (w' : World) (h : Sgn m (decide (a < 0) != decide (b < 0)) w e w') : Two (a * b) w e w' := by
  have hpos : (decide (a < 0) != decide (b < 0)) = true → a * b ≤ 0 := by
    intro h
    by_cases ha : a < 0 <;> by_cases hb : b < 0 <;> simp [ha, hb] at h
    · exact Int.mul_nonpos_of_nonpos_of_nonneg (by omega) (by omega)
    · exact Int.mul_nonpos_of_nonneg_of_nonpos (by omega) (by omega)
  have hneg : (decide (a < 0) != decide (b < 0)) = false → 0 ≤ a * b := by
    intro h
    by_cases ha : a < 0 <;> by_cases hb : b < 0 <;> simp [ha, hb] at h
    · exact Int.mul_nonneg_of_nonpos_of_nonpos (by omega) (by omega)
    · exact Int.mul_nonneg (by omega) (by omega)
  generalize a * b = p at *
  generalize (decide (a < 0) != decide (b < 0)) = s at *
  obtain ⟨h1, h2⟩ := h
  refine ⟨h1.trans ?_, h2⟩
  cases s
  · have hp := hneg rfl
    unfold sgnV sgnB cutI inI
    by_cases g : 9223372036854775807 < m
    · have : ¬ (-9223372036854775808 ≤ p ∧ p ≤ 9223372036854775807) := by omega
      simp [g, this]
    · have h3 : -9223372036854775808 ≤ p ∧ p ≤ 9223372036854775807 := by omega
      have h4 : (m : Int) = p := by omega
      simp [g, h3, h4]
  · have hp := hpos rfl
    unfold sgnV sgnB cutI inI
    by_cases g : 9223372036854775808 < m
    · have : ¬ (-9223372036854775808 ≤ p ∧ p ≤ 9223372036854775807) := by omega
      simp [g, this]
    · have h3 : -9223372036854775808 ≤ p ∧ p ≤ 9223372036854775807 := by omega
      have h4 : -(m : Int) = p := by omega
      simp [g, h3, h4]
def prodN (x y : Nat) : Nat := x * y
def hiN (x y : Nat) : Nat := x * y / 18446744073709551616
def loN (x y : Nat) : Nat := x * y % 18446744073709551616
theorem mul64_lo (x y : Nat) (w : World) (hx : x < 18446744073709551616) (hy : y < 18446744073709551616) (h : prodN x y < 18446744073709551616) :
    Calls Try.prog 234 #[.int .u64 (x : Int), .int .u64 (y : Int)] w fun e w' => e = .returned (.tuple #[.int .u64 0, .int .u64 (prodN x y : Nat)]) ∧ w = w' :=
  (mul64_any x y w hx hy).mono fun _ _ ⟨h1, h2⟩ => ⟨h1.trans (by
    unfold prodN at h ⊢
    rw [Nat.div_eq_of_lt h, Nat.mod_eq_of_lt h]
    rfl), h2⟩
theorem mul64_hi (x y : Nat) (w : World) (hx : x < 18446744073709551616) (hy : y < 18446744073709551616) :
    Calls Try.prog 234 #[.int .u64 (x : Int), .int .u64 (y : Int)] w fun e w' => e = .returned (.tuple #[.int .u64 (hiN x y : Nat), .int .u64 (loN x y : Nat)]) ∧ w = w' :=
  mul64_any x y w hx hy
def In (x : Int) : Prop := -9223372036854775808 ≤ x ∧ x ≤ 9223372036854775807
set_option maxHeartbeats 1000000 in
theorem mul_any (a b : Int) (w : World) (h0 : -9223372036854775808 ≤ a) (h1 : a ≤ 9223372036854775807) (h2 : -9223372036854775808 ≤ b) (h3 : b ≤ 9223372036854775807) :
    Calls Try.prog 222 #[.int .i64 a, .int .i64 b] w (Two (a * b) w) := by
  have sa : sizeN a < 18446744073709551616 := by unfold sizeN; omega
  have sb : sizeN b < 18446744073709551616 := by unfold sizeN; omega
  by_cases g : prodN (sizeN a) (sizeN b) < 18446744073709551616
  · have hs : ∀ (s : Bool), (decide (a < 0) != decide (b < 0)) = s → ∀ e w', Sgn (prodN (sizeN a) (sizeN b)) s w e w' → Two (a * b) w e w' := by
      intro s hs e w' h
      subst hs
      exact sgn_mul (size_mul a b) g w e w' h
    have HS := Lib.hid hs
    clear hs
    rcases (show a < 0 ∨ 0 ≤ a from by omega) with ha | ha <;> rcases (show b < 0 ∨ 0 ≤ b from by omega) with hb | hb
    all_goals
      go_enter Try.func222, Try.ntmps222
      go_wp2_with (first
        | (go_at_call 235; refine (size_any _ _ (by omega) (by omega)).mono ?_; rintro e w' ⟨rfl, rfl⟩)
        | (go_at_call 234; refine (mul64_lo _ _ _ sa sb g).mono ?_; rintro e w' ⟨rfl, rfl⟩)
        | (go_at_call 236; refine (signed_any _ _ _ g).mono ?_; rintro e w' ⟨rfl, rfl⟩))
      go_ret2
      exact HS.out _ (by by_cases p : a < 0 <;> by_cases q : b < 0 <;> first | omega | simp [p, q]) _ _ ⟨rfl, rfl⟩
  · have hh : 0 < hiN (sizeN a) (sizeN b) := by
      unfold prodN at g
      unfold hiN
      exact Nat.div_pos (by omega) (by omega)
    have hh1 : (((hiN (sizeN a) (sizeN b) : Nat) : Int) == 0) = false := by rw [beq_eq_false_iff_ne]; omega
    have hh2 : (((hiN (sizeN a) (sizeN b) : Nat) : Int) != 0) = true := by rw [bne_iff_ne]; omega
    have hno : ¬ (-9223372036854775808 ≤ a * b ∧ a * b ≤ 9223372036854775807) := by
      have := size_mul a b
      unfold prodN at g
      omega
    have HN := Lib.hid hno
    clear hno hh g
    go_enter Try.func222, Try.ntmps222
    go_wp2_with (first
      | (go_at_call 235; refine (size_any _ _ (by omega) (by omega)).mono ?_; rintro e w' ⟨rfl, rfl⟩)
      | (go_at_call 234; refine (mul64_hi _ _ _ sa sb).mono ?_; rintro e w' ⟨rfl, rfl⟩))
    go_ret2
    exact two_no HN.out
theorem mul_yes (a b : Int) (w : World) (h0 : -9223372036854775808 ≤ a) (h1 : a ≤ 9223372036854775807) (h2 : -9223372036854775808 ≤ b) (h3 : b ≤ 9223372036854775807) (g : In (a * b)) :
    Calls Try.prog 222 #[.int .i64 a, .int .i64 b] w fun e w' => e = .returned (.tuple #[.int .i64 (a * b), .bool true]) ∧ w = w' :=
  (mul_any a b w h0 h1 h2 h3).mono fun _ _ ⟨e1, e2⟩ => ⟨e1.trans (by rw [cutI_yes g, inI_yes g]), e2⟩
theorem mul_no (a b : Int) (w : World) (h0 : -9223372036854775808 ≤ a) (h1 : a ≤ 9223372036854775807) (h2 : -9223372036854775808 ≤ b) (h3 : b ≤ 9223372036854775807) (g : ¬ In (a * b)) :
    Calls Try.prog 222 #[.int .i64 a, .int .i64 b] w fun e w' => e = .returned (.tuple #[.int .i64 0, .bool false]) ∧ w = w' :=
  (mul_any a b w h0 h1 h2 h3).mono fun _ _ ⟨e1, e2⟩ => ⟨e1.trans (by rw [cutI_no g, inI_no g]), e2⟩
end Go.Proofs.Ytopbildpeojgoaa.Num
end
