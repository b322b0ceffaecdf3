/- Texts put together: RefFits, RefProduct. -/
import Derived.Test.YtopbildpeojgoaaNumMul
section
namespace Go.Proofs.Ytopbildpeojgoaa.Num
open Go.RowKit Go.Proofs.Ytopbildpeojgoaa

theorem tmod_neg {n : Int} (h : n < 0) : n.tmod 4294967296 = -((-n) % 4294967296) := by
  rw [show n = -(-n) from by omega, Int.neg_tmod, Int.tmod_eq_emod_of_nonneg (by omega)]
  simp
theorem tdiv_neg {n : Int} (h : n ≤ 0) : n.tdiv 4294967296 = -((-n) / 4294967296) := by
  rw [show n = -(-n) from by omega, Int.neg_tdiv, Int.tdiv_eq_ediv_of_nonneg (by omega)]
  simp
set_option maxHeartbeats 400000 in
theorem half_any (n : Int) (w : World) (h0 : -9223372036854775808 ≤ n) (h1 : n ≤ 9223372036854775807) :
    Calls Try.prog 200 #[.int .i64 n] w fun e w' => e = .returned (.tuple #[.int .i64 (n / 4294967296), .int .i64 (n % 4294967296)]) ∧ w = w' := by
  by_cases h : 0 ≤ n
  · go_enter Try.func200, Try.ntmps200
    go_wp2
    go_ret2
    exact ⟨ret_two (by omega) rfl, rfl⟩
  · have hd : (n - n % 4294967296).tdiv 4294967296 = n / 4294967296 := by rw [tdiv_neg (by omega)]; omega
    have hr : -n % 4294967296 = 0 ∨ 0 < -n % 4294967296 := by omega
    have e1 := tmod_neg (n := n) (by omega)
    rcases hr with hr | hr
    · have e2 : n.tmod 4294967296 = 0 := by rw [e1, hr]; rfl
      have e3 : n.tdiv 4294967296 = n / 4294967296 := by rw [tdiv_neg (by omega)]; omega
      have e4 : n % 4294967296 = 0 := by omega
      clear e1 hr hd
      go_enter Try.func200, Try.ntmps200
      go_wp2
      go_ret2
      exact ⟨rfl, rfl⟩
    · go_enter Try.func200, Try.ntmps200
      go_wp2
      go_ret2
      have e5 : -(-n % 4294967296) + 4294967296 = n % 4294967296 := by omega
      exact ⟨ret_two (by rw [e5]; exact hd) e5, rfl⟩
def High (S : Int) (w : World) (e : Ending) (w' : World) : Prop := e = .returned (.bool (inI S)) ∧ w = w'
theorem high_yes {S l h : Int} (e : l + h * 4294967296 = S) (h0 : 0 ≤ l) (h1 : l < 4294967296) (g : -2147483648 ≤ h ∧ h ≤ 2147483647) : inI S = true := inI_yes (by omega)
theorem high_no {S l h : Int} (e : l + h * 4294967296 = S) (h0 : 0 ≤ l) (h1 : l < 4294967296) (g : h < -2147483648 ∨ 2147483647 < h) : inI S = false := inI_no (by omega)
set_option maxHeartbeats 400000 in
theorem fits_add (a b : Int) (w : World) (h0 : -9223372036854775808 ≤ a) (h1 : a ≤ 9223372036854775807) (h2 : -9223372036854775808 ≤ b) (h3 : b ≤ 9223372036854775807) :
    Calls Try.prog 156 #[.int .i64 a, .int .i64 b, .bool false] w (High (a + b) w) := by
  go_enter Try.func156, Try.ntmps156
  go_wp2_with (go_at_call 200; refine (half_any _ _ (by omega) (by omega)).mono ?_; rintro e w' ⟨rfl, rfl⟩)
  go_loop [11, 12] (fun x y => ∃ l h : Int, Hid (l + h * 4294967296 = a + b) ∧ -4294967296 ≤ l ∧ l ≤ 8589934590 ∧ x = .int .i64 l ∧ y = .int .i64 h) (fun x _ => (intOf x).toNat)
  case atStart => exact ⟨_, _, by unfold Hid; omega, by omega, by omega, rfl, rfl⟩
  case round =>
    obtain ⟨l, h, he, hl0, hl1, rfl, rfl⟩ := hrel
    have hh0 : -4294967300 ≤ h := by have := he.out; omega
    have hh1 : h ≤ 4294967300 := by have := he.out; omega
    by_cases hc : 4294967296 ≤ l
    · go_wp2
      go_round
      case rel => exact ⟨l - 4294967296, h + 1, by have := he.out; unfold Hid; omega, by omega, by omega, by go_num, by go_num⟩
      case measure => simp [intOf]; omega
    · have hc' : l < 4294967296 := by omega
      clear hc
      go_wp2
      go_loop [11, 12] (fun x y => ∃ l h : Int, Hid (l + h * 4294967296 = a + b) ∧ -4294967296 ≤ l ∧ l < 4294967296 ∧ x = .int .i64 l ∧ y = .int .i64 h) (fun x _ => (4294967296 - intOf x).toNat)
      case atStart => exact ⟨l, h, he, by omega, by omega, rfl, rfl⟩
      case round =>
        clear he hl0 hl1 hc' hh0 hh1
        obtain ⟨m, g, he, hl0, hl1, rfl, rfl⟩ := hrel
        have hh0 : -4294967300 ≤ g := by have := he.out; omega
        have hh1 : g ≤ 4294967300 := by have := he.out; omega
        by_cases hc : m < 0
        · go_wp2
          go_round
          case rel => exact ⟨m + 4294967296, g - 1, by have := he.out; unfold Hid; omega, by omega, by omega, by go_num, by go_num⟩
          case measure => simp [intOf]; omega
        · have hc' : 0 ≤ m := by omega
          clear hc
          by_cases g0 : -2147483648 ≤ g
          · by_cases g1 : g ≤ 2147483647
            · go_wp2
              go_ret
              exact ⟨ret_bool (high_yes he.out hc' hl1 ⟨g0, g1⟩).symm, rfl⟩
            · have g2 : 2147483647 < g := by omega
              clear g1
              go_wp2
              go_ret
              exact ⟨ret_bool (by rw [high_no he.out hc' hl1 (.inr g2)]; exact decide_eq_false (by omega)), rfl⟩
          · have g2 : g < -2147483648 := by omega
            clear g0
            go_wp2
            go_ret
            exact ⟨ret_bool (high_no he.out hc' hl1 (.inl g2)).symm, rfl⟩
set_option maxHeartbeats 400000 in
theorem fits_sub (a b : Int) (w : World) (h0 : -9223372036854775808 ≤ a) (h1 : a ≤ 9223372036854775807) (h2 : -9223372036854775808 ≤ b) (h3 : b ≤ 9223372036854775807) :
    Calls Try.prog 156 #[.int .i64 a, .int .i64 b, .bool true] w (High (a - b) w) := by
  go_enter Try.func156, Try.ntmps156
  go_wp2_with (go_at_call 200; refine (half_any _ _ (by omega) (by omega)).mono ?_; rintro e w' ⟨rfl, rfl⟩)
  go_loop [11, 12] (fun x y => ∃ l h : Int, Hid (l + h * 4294967296 = a - b) ∧ -4294967296 ≤ l ∧ l ≤ 8589934590 ∧ x = .int .i64 l ∧ y = .int .i64 h) (fun x _ => (intOf x).toNat)
  case atStart => exact ⟨_, _, by unfold Hid; omega, by omega, by omega, rfl, rfl⟩
  case round =>
    obtain ⟨l, h, he, hl0, hl1, rfl, rfl⟩ := hrel
    have hh0 : -4294967300 ≤ h := by have := he.out; omega
    have hh1 : h ≤ 4294967300 := by have := he.out; omega
    by_cases hc : 4294967296 ≤ l
    · go_wp2
      go_round
      case rel => exact ⟨l - 4294967296, h + 1, by have := he.out; unfold Hid; omega, by omega, by omega, by go_num, by go_num⟩
      case measure => simp [intOf]; omega
    · have hc' : l < 4294967296 := by omega
      clear hc
      go_wp2
      go_loop [11, 12] (fun x y => ∃ l h : Int, Hid (l + h * 4294967296 = a - b) ∧ -4294967296 ≤ l ∧ l < 4294967296 ∧ x = .int .i64 l ∧ y = .int .i64 h) (fun x _ => (4294967296 - intOf x).toNat)
      case atStart => exact ⟨l, h, he, by omega, by omega, rfl, rfl⟩
      case round =>
        clear he hl0 hl1 hc' hh0 hh1
        obtain ⟨m, g, he, hl0, hl1, rfl, rfl⟩ := hrel
        have hh0 : -4294967300 ≤ g := by have := he.out; omega
        have hh1 : g ≤ 4294967300 := by have := he.out; omega
        by_cases hc : m < 0
        · go_wp2
          go_round
          case rel => exact ⟨m + 4294967296, g - 1, by have := he.out; unfold Hid; omega, by omega, by omega, by go_num, by go_num⟩
          case measure => simp [intOf]; omega
        · have hc' : 0 ≤ m := by omega
          clear hc
          by_cases g0 : -2147483648 ≤ g
          · by_cases g1 : g ≤ 2147483647
            · go_wp2
              go_ret
              exact ⟨ret_bool (high_yes he.out hc' hl1 ⟨g0, g1⟩).symm, rfl⟩
            · have g2 : 2147483647 < g := by omega
              clear g1
              go_wp2
              go_ret
              exact ⟨ret_bool (by rw [high_no he.out hc' hl1 (.inr g2)]; exact decide_eq_false (by omega)), rfl⟩
          · have g2 : g < -2147483648 := by omega
            clear g0
            go_wp2
            go_ret
            exact ⟨ret_bool (high_no he.out hc' hl1 (.inl g2)).symm, rfl⟩
theorem fitsA_yes (a b : Int) (w : World) (h0 : -9223372036854775808 ≤ a) (h1 : a ≤ 9223372036854775807) (h2 : -9223372036854775808 ≤ b) (h3 : b ≤ 9223372036854775807) (g : Yes (a + b)) :
    Calls Try.prog 156 #[.int .i64 a, .int .i64 b, .bool false] w fun e w' => e = .returned (.bool true) ∧ w = w' :=
  (fits_add a b w h0 h1 h2 h3).mono fun _ _ ⟨e1, e2⟩ => ⟨e1.trans (by rw [inI_yes g]), e2⟩
theorem fitsA_no (a b : Int) (w : World) (h0 : -9223372036854775808 ≤ a) (h1 : a ≤ 9223372036854775807) (h2 : -9223372036854775808 ≤ b) (h3 : b ≤ 9223372036854775807) (g : ¬ Yes (a + b)) :
    Calls Try.prog 156 #[.int .i64 a, .int .i64 b, .bool false] w fun e w' => e = .returned (.bool false) ∧ w = w' :=
  (fits_add a b w h0 h1 h2 h3).mono fun _ _ ⟨e1, e2⟩ => ⟨e1.trans (by rw [inI_no g]), e2⟩
theorem fitsS_yes (a b : Int) (w : World) (h0 : -9223372036854775808 ≤ a) (h1 : a ≤ 9223372036854775807) (h2 : -9223372036854775808 ≤ b) (h3 : b ≤ 9223372036854775807) (g : Yes (a - b)) :
    Calls Try.prog 156 #[.int .i64 a, .int .i64 b, .bool true] w fun e w' => e = .returned (.bool true) ∧ w = w' :=
  (fits_sub a b w h0 h1 h2 h3).mono fun _ _ ⟨e1, e2⟩ => ⟨e1.trans (by rw [inI_yes g]), e2⟩
theorem fitsS_no (a b : Int) (w : World) (h0 : -9223372036854775808 ≤ a) (h1 : a ≤ 9223372036854775807) (h2 : -9223372036854775808 ≤ b) (h3 : b ≤ 9223372036854775807) (g : ¬ Yes (a - b)) :
    Calls Try.prog 156 #[.int .i64 a, .int .i64 b, .bool true] w fun e w' => e = .returned (.bool false) ∧ w = w' :=
  (fits_sub a b w h0 h1 h2 h3).mono fun _ _ ⟨e1, e2⟩ => ⟨e1.trans (by rw [inI_no g]), e2⟩
end Go.Proofs.Ytopbildpeojgoaa.Num
end

section
namespace Go.Proofs.Ytopbildpeojgoaa.Num
open Go.RowKit Go.Proofs.Ytopbildpeojgoaa

/-- What the reference says of a product. -/
def Prod (a b : Int) (w : World) (e : Ending) (w' : World) : Prop := e = .returned (.bool (inI (a * b))) ∧ w = w'
theorem tdiv_pos (x y : Int) (hx : 0 ≤ x) : x.tdiv y = x / y := Int.tdiv_eq_ediv_of_nonneg hx
theorem quo_le {n d : Int} (hn : 0 ≤ n) (hd : 0 < d) : 0 ≤ n / d ∧ n / d ≤ n :=
  ⟨Int.ediv_nonneg hn (by omega), Int.ediv_le_self d hn⟩
theorem tdiv_least (y : Int) : (-9223372036854775808 : Int).tdiv y = -(9223372036854775808 / y) := by
  rw [show (-9223372036854775808 : Int) = -(9223372036854775808) from rfl, Int.neg_tdiv, Int.tdiv_eq_ediv_of_nonneg (by omega)]
/-- both above nought -/
theorem prod_pp {a b : Int} (ha : 0 < a) (hb : 0 < b) : inI (a * b) = decide (a ≤ 9223372036854775807 / b) := by
  have hm : 0 < a * b := Int.mul_pos ha hb
  have : a ≤ 9223372036854775807 / b ↔ a * b ≤ 9223372036854775807 := Int.le_ediv_iff_mul_le hb
  unfold inI
  rw [decide_eq_decide, this]
  exact ⟨fun h => h.2, fun h => ⟨by omega, h⟩⟩
/-- one above, the other not -/
theorem prod_np {a b : Int} (ha : a < 0) (hb : 0 < b) : inI (a * b) = decide (-(9223372036854775808 / b) ≤ a) := by
  have hm : a * b < 0 := Int.mul_neg_of_neg_of_pos ha hb
  have h1 : -a ≤ 9223372036854775808 / b ↔ -a * b ≤ 9223372036854775808 := Int.le_ediv_iff_mul_le hb
  rw [Int.neg_mul] at h1
  unfold inI
  rw [decide_eq_decide]
  constructor
  · intro h
    have := h1.2 (by omega)
    omega
  · intro h
    have := h1.1 (by omega)
    omega
set_option maxHeartbeats 1000000 in
theorem product_any (a b : Int) (w : World) (h0 : -9223372036854775808 ≤ a) (h1 : a ≤ 9223372036854775807) (h2 : -9223372036854775808 ≤ b) (h3 : b ≤ 9223372036854775807) :
    Calls Try.prog 157 #[.int .i64 a, .int .i64 b] w (Prod a b w) := by
  by_cases a0 : a = 0
  · subst a0
    go_enter Try.func157, Try.ntmps157
    go_wp2
    go_ret
    exact ⟨ret_bool (by rw [Int.zero_mul]; rfl), rfl⟩
  by_cases b0 : b = 0
  · subst b0
    have ha : (a == 0) = false := by simpa using a0
    clear a0
    go_enter Try.func157, Try.ntmps157
    go_wp2
    go_ret
    exact ⟨ret_bool (by rw [Int.mul_zero]; rfl), rfl⟩
  have za : (a == 0) = false := by simpa using a0
  have zb : (b == 0) = false := by simpa using b0
  rcases (show 0 < a ∨ a < 0 from by omega) with ha | ha <;> rcases (show 0 < b ∨ b < 0 from by omega) with hb | hb
  · clear a0 b0
    have e0 := tdiv_pos 9223372036854775807 b (by omega)
    obtain ⟨q0, q1⟩ := quo_le (n := 9223372036854775807) (by omega) hb
    go_enter Try.func157, Try.ntmps157
    go_wp2
    go_ret
    exact ⟨ret_bool (by rw [prod_pp ha hb]), rfl⟩
  · clear a0 b0
    have e1 := tdiv_least a
    obtain ⟨q0, q1⟩ := quo_le (n := 9223372036854775808) (by omega) ha
    go_enter Try.func157, Try.ntmps157
    go_wp2
    go_ret
    exact ⟨ret_bool (by rw [Int.mul_comm, prod_np hb ha]), rfl⟩
  · clear a0 b0
    have e1 := tdiv_least b
    obtain ⟨q0, q1⟩ := quo_le (n := 9223372036854775808) (by omega) hb
    go_enter Try.func157, Try.ntmps157
    go_wp2
    go_ret
    exact ⟨ret_bool (by rw [prod_np ha hb]), rfl⟩
  · clear a0 b0
    by_cases al : a = -9223372036854775808
    · subst al
      have hno : inI (-9223372036854775808 * b) = false := inI_no (by omega)
      have HN := Lib.hid hno
      clear hno
      by_cases bl : b = -9223372036854775808
      · subst bl
        go_enter Try.func157, Try.ntmps157
        go_wp2
        go_ret
        exact ⟨ret_bool HN.out.symm, rfl⟩
      · have bn : (b != -9223372036854775808) = true := by simpa using bl
        clear bl
        by_cases b1 : b = -1
        · subst b1
          go_enter Try.func157, Try.ntmps157
          go_wp2
          go_ret
          exact ⟨ret_bool (inI_no (by omega)).symm, rfl⟩
        · have b1' : (b == -1) = false := by simpa using b1
          clear b1
          go_enter Try.func157, Try.ntmps157
          go_wp2
          go_ret
          exact ⟨ret_bool HN.out.symm, rfl⟩
    · by_cases bl : b = -9223372036854775808
      · subst bl
        have an : (a != -9223372036854775808) = true := by simpa using al
        clear al
        by_cases a1 : a = -1
        · subst a1
          go_enter Try.func157, Try.ntmps157
          go_wp2
          go_ret
          exact ⟨ret_bool (inI_no (by omega)).symm, rfl⟩
        · have a1' : (a == -1) = false := by simpa using a1
          have HN := Lib.hid (show inI (a * -9223372036854775808) = false from inI_no (by omega))
          clear a1
          go_enter Try.func157, Try.ntmps157
          go_wp2
          go_ret
          exact ⟨ret_bool HN.out.symm, rfl⟩
      · have an : (a != -9223372036854775808) = true := by simpa using al
        have bn : (b != -9223372036854775808) = true := by simpa using bl
        have hp := prod_pp (a := -a) (b := -b) (by omega) (by omega)
        rw [Int.neg_mul_neg] at hp
        obtain ⟨q0, q1⟩ := quo_le (n := 9223372036854775807) (d := -b) (by omega) (by omega)
        have e0 := tdiv_pos 9223372036854775807 (-b) (by omega)
        rw [Int.ediv_neg] at hp q0 q1 e0
        have la : -9223372036854775808 < a := by omega
        have lb : -9223372036854775808 < b := by omega
        clear al bl
        by_cases g : -a ≤ -(9223372036854775807 / b)
        · have HP := Lib.hid (hp.trans (decide_eq_true g))
          clear hp
          go_enter Try.func157, Try.ntmps157
          go_wp2
          go_ret
          exact ⟨ret_bool HP.out.symm, rfl⟩
        · have HP := Lib.hid (hp.trans (decide_eq_false g))
          have a1 : a ≠ -1 := by
            intro e
            have : inI (a * b) = true := inI_yes (by subst e; omega)
            rw [HP.out] at this
            cases this
          have b1 : b ≠ -1 := by
            intro e
            have : inI (a * b) = true := inI_yes (by subst e; omega)
            rw [HP.out] at this
            cases this
          have a1' : (a == -1) = false := by simpa using a1
          have b1' : (b == -1) = false := by simpa using b1
          have g' : -(9223372036854775807 / b) < -a := by omega
          clear hp g a1 b1
          go_enter Try.func157, Try.ntmps157
          go_wp2
          go_ret
          exact ⟨ret_bool (by rw [HP.out]; exact decide_eq_false (by omega)), rfl⟩
theorem product_yes (a b : Int) (w : World) (h0 : -9223372036854775808 ≤ a) (h1 : a ≤ 9223372036854775807) (h2 : -9223372036854775808 ≤ b) (h3 : b ≤ 9223372036854775807) (g : In (a * b)) :
    Calls Try.prog 157 #[.int .i64 a, .int .i64 b] w fun e w' => e = .returned (.bool true) ∧ w = w' :=
  (product_any a b w h0 h1 h2 h3).mono fun _ _ ⟨e1, e2⟩ => ⟨e1.trans (by rw [inI_yes g]), e2⟩
theorem product_no (a b : Int) (w : World) (h0 : -9223372036854775808 ≤ a) (h1 : a ≤ 9223372036854775807) (h2 : -9223372036854775808 ≤ b) (h3 : b ≤ 9223372036854775807) (g : ¬ In (a * b)) :
    Calls Try.prog 157 #[.int .i64 a, .int .i64 b] w fun e w' => e = .returned (.bool false) ∧ w = w' :=
  (product_any a b w h0 h1 h2 h3).mono fun _ _ ⟨e1, e2⟩ => ⟨e1.trans (by rw [inI_no g]), e2⟩
end Go.Proofs.Ytopbildpeojgoaa.Num
end
