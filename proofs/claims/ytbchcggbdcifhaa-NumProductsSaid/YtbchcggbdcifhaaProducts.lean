/- The walk of the law 'NumProducts'. -/
import Derived.Test.YtbchcggbdcifhaaE
import Derived.OpenShut
namespace Go.Proofs.Ytbchcggbdcifhaa
open Go.RowKit

/-- What 'Mul' does with the amounts: the product of two amounts, in 128 bits. -/
theorem mul64_any (x y : Nat) (w : World) (hx : x < 18446744073709551616) (hy : y < 18446744073709551616) :
    Calls Try.prog 20 #[.int .u64 (x : Int), .int .u64 (y : Int)] w fun e w' => e = .returned (.tuple #[.int .u64 ((x * y / 18446744073709551616 : Nat) : Int), .int .u64 ((x * y % 18446744073709551616 : Nat) : Int)]) ∧ w = w' :=
  (Try.bits_Mul64 x y hx hy w).mono fun _ _ ⟨h1, h2⟩ => ⟨h1, h2.symm⟩

theorem size_mul (a b : Int) : sizeN a * sizeN b = (a * b).natAbs := by unfold sizeN; exact (Int.natAbs_mul a b).symm

/-- An amount and a sign make a product of 64 bits just where it is one. -/
theorem sgn_mul {a b : Int} {m : Nat} (hm : m = (a * b).natAbs) (hlt : m < 18446744073709551616) (w : World) (e : Ending) (w' : World) (h : Sgn m (decide (a < 0) != decide (b < 0)) w e w') : Two (a * b) w e w' := by
  have hpos : (decide (a < 0) != decide (b < 0)) = true → a * b ≤ 0 := by
    intro h
    by_cases ha : a < 0 <;> by_cases hb : b < 0 <;> simp [ha, hb] at h
    · exact Int.mul_nonpos_of_nonpos_of_nonneg (by omega) (by omega)
    · exact Int.mul_nonpos_of_nonneg_of_nonpos (by omega) (by omega)
  have hneg : (decide (a < 0) != decide (b < 0)) = false → 0 ≤ a * b := by
    intro h
    by_cases ha : a < 0 <;> by_cases hb : b < 0 <;> simp [ha, hb] at h
    · exact Int.mul_nonneg_of_nonpos_of_nonpos (by omega) (by omega)
    · exact Int.mul_nonneg (by omega) (by omega)
  generalize a * b = p at *
  generalize (decide (a < 0) != decide (b < 0)) = s at *
  obtain ⟨h1, h2⟩ := h
  refine ⟨h1.trans ?_, h2⟩
  cases s
  · have hp := hneg rfl
    unfold sgnV sgnB cutI inI
    by_cases g : 9223372036854775807 < m
    · have : ¬ (-9223372036854775808 ≤ p ∧ p ≤ 9223372036854775807) := by omega
      simp [g, this]
    · have h3 : -9223372036854775808 ≤ p ∧ p ≤ 9223372036854775807 := by omega
      have h4 : (m : Int) = p := by omega
      simp [g, h3, h4]
  · have hp := hpos rfl
    unfold sgnV sgnB cutI inI
    by_cases g : 9223372036854775808 < m
    · have : ¬ (-9223372036854775808 ≤ p ∧ p ≤ 9223372036854775807) := by omega
      simp [g, this]
    · have h3 : -9223372036854775808 ≤ p ∧ p ≤ 9223372036854775807 := by omega
      have h4 : -(m : Int) = p := by omega
      simp [g, h3, h4]

def prodN (x y : Nat) : Nat := x * y
def hiN (x y : Nat) : Nat := x * y / 18446744073709551616
def loN (x y : Nat) : Nat := x * y % 18446744073709551616
theorem mul64_lo (x y : Nat) (w : World) (hx : x < 18446744073709551616) (hy : y < 18446744073709551616) (h : prodN x y < 18446744073709551616) :
    Calls Try.prog 20 #[.int .u64 (x : Int), .int .u64 (y : Int)] w fun e w' => e = .returned (.tuple #[.int .u64 0, .int .u64 (prodN x y : Nat)]) ∧ w = w' :=
  (mul64_any x y w hx hy).mono fun _ _ ⟨h1, h2⟩ => ⟨h1.trans (by
    unfold prodN at h ⊢
    rw [Nat.div_eq_of_lt h, Nat.mod_eq_of_lt h]
    rfl), h2⟩
theorem mul64_hi (x y : Nat) (w : World) (hx : x < 18446744073709551616) (hy : y < 18446744073709551616) :
    Calls Try.prog 20 #[.int .u64 (x : Int), .int .u64 (y : Int)] w fun e w' => e = .returned (.tuple #[.int .u64 (hiN x y : Nat), .int .u64 (loN x y : Nat)]) ∧ w = w' :=
  mul64_any x y w hx hy

set_option maxHeartbeats 1000000 in
theorem mul_any (a b : Int) (w : World) (h0 : -9223372036854775808 ≤ a) (h1 : a ≤ 9223372036854775807) (h2 : -9223372036854775808 ≤ b) (h3 : b ≤ 9223372036854775807) :
    Calls Try.prog 12 #[.int .i64 a, .int .i64 b] w (Two (a * b) w) := by
  have sa : sizeN a < 18446744073709551616 := by unfold sizeN; omega
  have sb : sizeN b < 18446744073709551616 := by unfold sizeN; omega
  by_cases g : prodN (sizeN a) (sizeN b) < 18446744073709551616
  · have hs : ∀ (s : Bool), (decide (a < 0) != decide (b < 0)) = s → ∀ e w', Sgn (prodN (sizeN a) (sizeN b)) s w e w' → Two (a * b) w e w' := by
      intro s hs e w' h
      subst hs
      exact sgn_mul (size_mul a b) g w e w' h
    have HS := Lib.hid hs
    clear hs
    rcases (show a < 0 ∨ 0 ≤ a from by omega) with ha | ha <;> rcases (show b < 0 ∨ 0 ≤ b from by omega) with hb | hb
    all_goals
      go_enter Try.func12, Try.ntmps12
      go_wp2_with (first
        | (go_at_call 21; refine (size_any _ _ (by omega) (by omega)).mono ?_; rintro e w' ⟨rfl, rfl⟩)
        | (go_at_call 20; refine (mul64_lo _ _ _ sa sb g).mono ?_; rintro e w' ⟨rfl, rfl⟩)
        | (go_at_call 22; refine (signed_any _ _ _ g).mono ?_; rintro e w' ⟨rfl, rfl⟩))
      go_ret2
      exact HS.out _ (by by_cases p : a < 0 <;> by_cases q : b < 0 <;> first | omega | simp [p, q]) _ _ ⟨rfl, rfl⟩
  · have hh : 0 < hiN (sizeN a) (sizeN b) := by
      unfold prodN at g
      unfold hiN
      exact Nat.div_pos (by omega) (by omega)
    have hh1 : (((hiN (sizeN a) (sizeN b) : Nat) : Int) == 0) = false := by rw [beq_eq_false_iff_ne]; omega
    have hh2 : (((hiN (sizeN a) (sizeN b) : Nat) : Int) != 0) = true := by rw [bne_iff_ne]; omega
    have hno : ¬ (-9223372036854775808 ≤ a * b ∧ a * b ≤ 9223372036854775807) := by
      have := size_mul a b
      unfold prodN at g
      omega
    have HN := Lib.hid hno
    clear hno hh g
    go_enter Try.func12, Try.ntmps12
    go_wp2_with (first
      | (go_at_call 21; refine (size_any _ _ (by omega) (by omega)).mono ?_; rintro e w' ⟨rfl, rfl⟩)
      | (go_at_call 20; refine (mul64_hi _ _ _ sa sb).mono ?_; rintro e w' ⟨rfl, rfl⟩))
    go_ret2
    exact two_no HN.out

/-- What the reference says of a product. -/
def Prod (a b : Int) (w : World) (e : Ending) (w' : World) : Prop := e = .returned (.bool (inI (a * b))) ∧ w = w'

theorem tdiv_pos (x y : Int) (hx : 0 ≤ x) : x.tdiv y = x / y := Int.tdiv_eq_ediv_of_nonneg hx
theorem quo_le {n d : Int} (hn : 0 ≤ n) (hd : 0 < d) : 0 ≤ n / d ∧ n / d ≤ n :=
  ⟨Int.ediv_nonneg hn (by omega), Int.ediv_le_self d hn⟩
theorem tdiv_least (y : Int) : (-9223372036854775808 : Int).tdiv y = -(9223372036854775808 / y) := by
  rw [show (-9223372036854775808 : Int) = -(9223372036854775808) from rfl, Int.neg_tdiv, Int.tdiv_eq_ediv_of_nonneg (by omega)]
/-- both above nought -/
theorem prod_pp {a b : Int} (ha : 0 < a) (hb : 0 < b) : inI (a * b) = decide (a ≤ 9223372036854775807 / b) := by
  have hm : 0 < a * b := Int.mul_pos ha hb
  have : a ≤ 9223372036854775807 / b ↔ a * b ≤ 9223372036854775807 := Int.le_ediv_iff_mul_le hb
  unfold inI
  rw [decide_eq_decide, this]
  exact ⟨fun h => h.2, fun h => ⟨by omega, h⟩⟩
/-- one above, the other not -/
theorem prod_np {a b : Int} (ha : a < 0) (hb : 0 < b) : inI (a * b) = decide (-(9223372036854775808 / b) ≤ a) := by
  have hm : a * b < 0 := Int.mul_neg_of_neg_of_pos ha hb
  have h1 : -a ≤ 9223372036854775808 / b ↔ -a * b ≤ 9223372036854775808 := Int.le_ediv_iff_mul_le hb
  rw [Int.neg_mul] at h1
  unfold inI
  rw [decide_eq_decide]
  constructor
  · intro h
    have := h1.2 (by omega)
    omega
  · intro h
    have := h1.1 (by omega)
    omega

set_option maxHeartbeats 1000000 in
theorem product_any (a b : Int) (w : World) (h0 : -9223372036854775808 ≤ a) (h1 : a ≤ 9223372036854775807) (h2 : -9223372036854775808 ≤ b) (h3 : b ≤ 9223372036854775807) :
    Calls Try.prog 13 #[.int .i64 a, .int .i64 b] w (Prod a b w) := by
  by_cases a0 : a = 0
  · subst a0
    go_enter Try.func13, Try.ntmps13
    go_wp2
    go_ret
    exact ⟨ret_bool (by rw [Int.zero_mul]; rfl), rfl⟩
  by_cases b0 : b = 0
  · subst b0
    have ha : (a == 0) = false := by simpa using a0
    clear a0
    go_enter Try.func13, Try.ntmps13
    go_wp2
    go_ret
    exact ⟨ret_bool (by rw [Int.mul_zero]; rfl), rfl⟩
  have za : (a == 0) = false := by simpa using a0
  have zb : (b == 0) = false := by simpa using b0
  rcases (show 0 < a ∨ a < 0 from by omega) with ha | ha <;> rcases (show 0 < b ∨ b < 0 from by omega) with hb | hb
  · clear a0 b0
    have e0 := tdiv_pos 9223372036854775807 b (by omega)
    obtain ⟨q0, q1⟩ := quo_le (n := 9223372036854775807) (by omega) hb
    go_enter Try.func13, Try.ntmps13
    go_wp2
    go_ret
    exact ⟨ret_bool (by rw [prod_pp ha hb]), rfl⟩
  · clear a0 b0
    have e1 := tdiv_least a
    obtain ⟨q0, q1⟩ := quo_le (n := 9223372036854775808) (by omega) ha
    go_enter Try.func13, Try.ntmps13
    go_wp2
    go_ret
    exact ⟨ret_bool (by rw [Int.mul_comm, prod_np hb ha]), rfl⟩
  · clear a0 b0
    have e1 := tdiv_least b
    obtain ⟨q0, q1⟩ := quo_le (n := 9223372036854775808) (by omega) hb
    go_enter Try.func13, Try.ntmps13
    go_wp2
    go_ret
    exact ⟨ret_bool (by rw [prod_np ha hb]), rfl⟩
  · clear a0 b0
    by_cases al : a = -9223372036854775808
    · subst al
      have hno : inI (-9223372036854775808 * b) = false := inI_no (by omega)
      have HN := Lib.hid hno
      clear hno
      by_cases bl : b = -9223372036854775808
      · subst bl
        go_enter Try.func13, Try.ntmps13
        go_wp2
        go_ret
        exact ⟨ret_bool HN.out.symm, rfl⟩
      · have bn : (b != -9223372036854775808) = true := by simpa using bl
        clear bl
        by_cases b1 : b = -1
        · subst b1
          go_enter Try.func13, Try.ntmps13
          go_wp2
          go_ret
          exact ⟨ret_bool (inI_no (by omega)).symm, rfl⟩
        · have b1' : (b == -1) = false := by simpa using b1
          clear b1
          go_enter Try.func13, Try.ntmps13
          go_wp2
          go_ret
          exact ⟨ret_bool HN.out.symm, rfl⟩
    · by_cases bl : b = -9223372036854775808
      · subst bl
        have an : (a != -9223372036854775808) = true := by simpa using al
        clear al
        by_cases a1 : a = -1
        · subst a1
          go_enter Try.func13, Try.ntmps13
          go_wp2
          go_ret
          exact ⟨ret_bool (inI_no (by omega)).symm, rfl⟩
        · have a1' : (a == -1) = false := by simpa using a1
          have HN := Lib.hid (show inI (a * -9223372036854775808) = false from inI_no (by omega))
          clear a1
          go_enter Try.func13, Try.ntmps13
          go_wp2
          go_ret
          exact ⟨ret_bool HN.out.symm, rfl⟩
      · have an : (a != -9223372036854775808) = true := by simpa using al
        have bn : (b != -9223372036854775808) = true := by simpa using bl
        have hp := prod_pp (a := -a) (b := -b) (by omega) (by omega)
        rw [Int.neg_mul_neg] at hp
        obtain ⟨q0, q1⟩ := quo_le (n := 9223372036854775807) (d := -b) (by omega) (by omega)
        have e0 := tdiv_pos 9223372036854775807 (-b) (by omega)
        rw [Int.ediv_neg] at hp q0 q1 e0
        have la : -9223372036854775808 < a := by omega
        have lb : -9223372036854775808 < b := by omega
        clear al bl
        by_cases g : -a ≤ -(9223372036854775807 / b)
        · have HP := Lib.hid (hp.trans (decide_eq_true g))
          clear hp
          go_enter Try.func13, Try.ntmps13
          go_wp2
          go_ret
          exact ⟨ret_bool HP.out.symm, rfl⟩
        · have HP := Lib.hid (hp.trans (decide_eq_false g))
          have a1 : a ≠ -1 := by
            intro e
            have : inI (a * b) = true := inI_yes (by subst e; omega)
            rw [HP.out] at this
            cases this
          have b1 : b ≠ -1 := by
            intro e
            have : inI (a * b) = true := inI_yes (by subst e; omega)
            rw [HP.out] at this
            cases this
          have a1' : (a == -1) = false := by simpa using a1
          have b1' : (b == -1) = false := by simpa using b1
          have g' : -(9223372036854775807 / b) < -a := by omega
          clear hp g a1 b1
          go_enter Try.func13, Try.ntmps13
          go_wp2
          go_ret
          exact ⟨ret_bool (by rw [HP.out]; exact decide_eq_false (by omega)), rfl⟩

def In (x : Int) : Prop := -9223372036854775808 ≤ x ∧ x ≤ 9223372036854775807
theorem mul_yes (a b : Int) (w : World) (h0 : -9223372036854775808 ≤ a) (h1 : a ≤ 9223372036854775807) (h2 : -9223372036854775808 ≤ b) (h3 : b ≤ 9223372036854775807) (g : In (a * b)) :
    Calls Try.prog 12 #[.int .i64 a, .int .i64 b] w fun e w' => e = .returned (.tuple #[.int .i64 (a * b), .bool true]) ∧ w = w' :=
  (mul_any a b w h0 h1 h2 h3).mono fun _ _ ⟨e1, e2⟩ => ⟨e1.trans (by rw [cutI_yes g, inI_yes g]), e2⟩
theorem mul_no (a b : Int) (w : World) (h0 : -9223372036854775808 ≤ a) (h1 : a ≤ 9223372036854775807) (h2 : -9223372036854775808 ≤ b) (h3 : b ≤ 9223372036854775807) (g : ¬ In (a * b)) :
    Calls Try.prog 12 #[.int .i64 a, .int .i64 b] w fun e w' => e = .returned (.tuple #[.int .i64 0, .bool false]) ∧ w = w' :=
  (mul_any a b w h0 h1 h2 h3).mono fun _ _ ⟨e1, e2⟩ => ⟨e1.trans (by rw [cutI_no g, inI_no g]), e2⟩
theorem product_yes (a b : Int) (w : World) (h0 : -9223372036854775808 ≤ a) (h1 : a ≤ 9223372036854775807) (h2 : -9223372036854775808 ≤ b) (h3 : b ≤ 9223372036854775807) (g : In (a * b)) :
    Calls Try.prog 13 #[.int .i64 a, .int .i64 b] w fun e w' => e = .returned (.bool true) ∧ w = w' :=
  (product_any a b w h0 h1 h2 h3).mono fun _ _ ⟨e1, e2⟩ => ⟨e1.trans (by rw [inI_yes g]), e2⟩
theorem product_no (a b : Int) (w : World) (h0 : -9223372036854775808 ≤ a) (h1 : a ≤ 9223372036854775807) (h2 : -9223372036854775808 ≤ b) (h3 : b ≤ 9223372036854775807) (g : ¬ In (a * b)) :
    Calls Try.prog 13 #[.int .i64 a, .int .i64 b] w fun e w' => e = .returned (.bool false) ∧ w = w' :=
  (product_any a b w h0 h1 h2 h3).mono fun _ _ ⟨e1, e2⟩ => ⟨e1.trans (by rw [inI_no g]), e2⟩

set_option maxHeartbeats 1000000 in
theorem products_walk (a b : Int) (wa : (Lit.int .i64 a).wf = true) (wb : (Lit.int .i64 b).wf = true) (w : World) :
    Calls Try.prog 4 #[.int .i64 a, .int .i64 b] w fun e w' => e = .returned (.bool true) ∧ Below w.heap.size w w' := by
  obtain ⟨h0, h1⟩ := bounds_i64 wa
  obtain ⟨h2, h3⟩ := bounds_i64 wb
  clear wa wb
  by_cases g : In (a * b)
  · obtain ⟨g0, g1⟩ : -9223372036854775808 ≤ a * b ∧ a * b ≤ 9223372036854775807 := g
    have G := Lib.hid (show In (a * b) from ⟨g0, g1⟩)
    go_enter Try.func4, Try.ntmps4
    go_wp2_with (first
      | (go_at_call 11; refine (awake_any _).mono ?_; rintro e w1 ⟨rfl, hb⟩)
      | (go_at_call 12; refine (mul_yes _ _ _ h0 h1 h2 h3 G.out).mono ?_; rintro e w' ⟨rfl, rfl⟩)
      | (go_at_call 13; refine (product_yes _ _ _ h0 h1 h2 h3 G.out).mono ?_; rintro e w' ⟨rfl, rfl⟩))
    go_ret
    exact ⟨rfl, by assumption⟩
  · have G := Lib.hid g
    clear g
    go_enter Try.func4, Try.ntmps4
    go_wp2_with (first
      | (go_at_call 11; refine (awake_any _).mono ?_; rintro e w1 ⟨rfl, hb⟩)
      | (go_at_call 12; refine (mul_no _ _ _ h0 h1 h2 h3 G.out).mono ?_; rintro e w' ⟨rfl, rfl⟩)
      | (go_at_call 13; refine (product_no _ _ _ h0 h1 h2 h3 G.out).mono ?_; rintro e w' ⟨rfl, rfl⟩))
    go_ret
    exact ⟨rfl, by assumption⟩
end Go.Proofs.Ytbchcggbdcifhaa
