/- The walk of the law 'NumSums'. -/
import Derived.Test.YtbchcggbdcifhaaE
import Derived.OpenShut
namespace Go.Proofs.Ytbchcggbdcifhaa
open Go.RowKit

def Yes (x : Int) : Prop := -9223372036854775808 ≤ x ∧ x ≤ 9223372036854775807
theorem add_yes (a b : Int) (w : World) (h0 : -9223372036854775808 ≤ a) (h1 : a ≤ 9223372036854775807) (h2 : -9223372036854775808 ≤ b) (h3 : b ≤ 9223372036854775807) (g : Yes (a + b)) :
    Calls Try.prog 7 #[.int .i64 a, .int .i64 b] w fun e w' => e = .returned (.tuple #[.int .i64 (a + b), .bool true]) ∧ w = w' :=
  (add_any a b w h0 h1 h2 h3).mono fun _ _ ⟨e1, e2⟩ => ⟨e1.trans (by rw [cutI_yes g, inI_yes g]), e2⟩
theorem add_no (a b : Int) (w : World) (h0 : -9223372036854775808 ≤ a) (h1 : a ≤ 9223372036854775807) (h2 : -9223372036854775808 ≤ b) (h3 : b ≤ 9223372036854775807) (g : ¬ Yes (a + b)) :
    Calls Try.prog 7 #[.int .i64 a, .int .i64 b] w fun e w' => e = .returned (.tuple #[.int .i64 0, .bool false]) ∧ w = w' :=
  (add_any a b w h0 h1 h2 h3).mono fun _ _ ⟨e1, e2⟩ => ⟨e1.trans (by rw [cutI_no g, inI_no g]), e2⟩
theorem sub_yes (a b : Int) (w : World) (h0 : -9223372036854775808 ≤ a) (h1 : a ≤ 9223372036854775807) (h2 : -9223372036854775808 ≤ b) (h3 : b ≤ 9223372036854775807) (g : Yes (a - b)) :
    Calls Try.prog 8 #[.int .i64 a, .int .i64 b] w fun e w' => e = .returned (.tuple #[.int .i64 (a - b), .bool true]) ∧ w = w' :=
  (sub_any a b w h0 h1 h2 h3).mono fun _ _ ⟨e1, e2⟩ => ⟨e1.trans (by rw [cutI_yes g, inI_yes g]), e2⟩
theorem sub_no (a b : Int) (w : World) (h0 : -9223372036854775808 ≤ a) (h1 : a ≤ 9223372036854775807) (h2 : -9223372036854775808 ≤ b) (h3 : b ≤ 9223372036854775807) (g : ¬ Yes (a - b)) :
    Calls Try.prog 8 #[.int .i64 a, .int .i64 b] w fun e w' => e = .returned (.tuple #[.int .i64 0, .bool false]) ∧ w = w' :=
  (sub_any a b w h0 h1 h2 h3).mono fun _ _ ⟨e1, e2⟩ => ⟨e1.trans (by rw [cutI_no g, inI_no g]), e2⟩
theorem neg_yes (a : Int) (w : World) (h0 : -9223372036854775808 < a) (h1 : a ≤ 9223372036854775807) :
    Calls Try.prog 9 #[.int .i64 a] w fun e w' => e = .returned (.tuple #[.int .i64 (-a), .bool true]) ∧ w = w' :=
  (neg_any a w (by omega) h1).mono fun _ _ ⟨e1, e2⟩ => ⟨e1.trans (by rw [cutI_yes (by omega), inI_yes (by omega), Int.zero_sub]), e2⟩
theorem neg_no (w : World) :
    Calls Try.prog 9 #[.int .i64 (-9223372036854775808)] w fun e w' => e = .returned (.tuple #[.int .i64 0, .bool false]) ∧ w = w' :=
  (neg_any _ w (by omega) (by omega)).mono fun _ _ ⟨e1, e2⟩ => ⟨e1.trans (by rw [cutI_no (by omega), inI_no (by omega)]), e2⟩
theorem fitsA_yes (a b : Int) (w : World) (h0 : -9223372036854775808 ≤ a) (h1 : a ≤ 9223372036854775807) (h2 : -9223372036854775808 ≤ b) (h3 : b ≤ 9223372036854775807) (g : Yes (a + b)) :
    Calls Try.prog 10 #[.int .i64 a, .int .i64 b, .bool false] w fun e w' => e = .returned (.bool true) ∧ w = w' :=
  (fits_add a b w h0 h1 h2 h3).mono fun _ _ ⟨e1, e2⟩ => ⟨e1.trans (by rw [inI_yes g]), e2⟩
theorem fitsA_no (a b : Int) (w : World) (h0 : -9223372036854775808 ≤ a) (h1 : a ≤ 9223372036854775807) (h2 : -9223372036854775808 ≤ b) (h3 : b ≤ 9223372036854775807) (g : ¬ Yes (a + b)) :
    Calls Try.prog 10 #[.int .i64 a, .int .i64 b, .bool false] w fun e w' => e = .returned (.bool false) ∧ w = w' :=
  (fits_add a b w h0 h1 h2 h3).mono fun _ _ ⟨e1, e2⟩ => ⟨e1.trans (by rw [inI_no g]), e2⟩
theorem fitsS_yes (a b : Int) (w : World) (h0 : -9223372036854775808 ≤ a) (h1 : a ≤ 9223372036854775807) (h2 : -9223372036854775808 ≤ b) (h3 : b ≤ 9223372036854775807) (g : Yes (a - b)) :
    Calls Try.prog 10 #[.int .i64 a, .int .i64 b, .bool true] w fun e w' => e = .returned (.bool true) ∧ w = w' :=
  (fits_sub a b w h0 h1 h2 h3).mono fun _ _ ⟨e1, e2⟩ => ⟨e1.trans (by rw [inI_yes g]), e2⟩
theorem fitsS_no (a b : Int) (w : World) (h0 : -9223372036854775808 ≤ a) (h1 : a ≤ 9223372036854775807) (h2 : -9223372036854775808 ≤ b) (h3 : b ≤ 9223372036854775807) (g : ¬ Yes (a - b)) :
    Calls Try.prog 10 #[.int .i64 a, .int .i64 b, .bool true] w fun e w' => e = .returned (.bool false) ∧ w = w' :=
  (fits_sub a b w h0 h1 h2 h3).mono fun _ _ ⟨e1, e2⟩ => ⟨e1.trans (by rw [inI_no g]), e2⟩

set_option maxHeartbeats 1000000 in
theorem sums_yyy (a b : Int) (w : World) (h0 : -9223372036854775808 < a) (h1 : a ≤ 9223372036854775807) (h2 : -9223372036854775808 ≤ b) (h3 : b ≤ 9223372036854775807) (gA : Yes (a + b)) (gS : Yes (a - b)) :
    Calls Try.prog 3 #[.int .i64 a, .int .i64 b] w fun e w' => e = .returned (.bool true) ∧ Below w.heap.size w w' := by
  have hA : -9223372036854775808 ≤ a + b ∧ a + b ≤ 9223372036854775807 := gA
  have hS : -9223372036854775808 ≤ a - b ∧ a - b ≤ 9223372036854775807 := gS
  obtain ⟨hA0, hA1⟩ := hA
  obtain ⟨hS0, hS1⟩ := hS
  have GA := Lib.hid gA
  have GS := Lib.hid gS
  clear gA gS
  go_enter Try.func3, Try.ntmps3
  go_wp2_with (first
    | (go_at_call 11; refine (awake_any _).mono ?_; rintro e w1 ⟨rfl, hb⟩)
    | (go_at_call 7; refine (add_yes _ _ _ (by omega) (by omega) (by omega) (by omega) GA.out).mono ?_; rintro e w' ⟨rfl, rfl⟩)
    | (go_at_call 8; refine (sub_yes _ _ _ (by omega) (by omega) (by omega) (by omega) GS.out).mono ?_; rintro e w' ⟨rfl, rfl⟩)
    | (go_at_call 9; refine (neg_yes _ _ (by omega) (by omega)).mono ?_; rintro e w' ⟨rfl, rfl⟩)
    | (go_at_call 10; first
      | (with_reducible refine (fitsA_yes _ _ _ (by omega) (by omega) (by omega) (by omega) GA.out).mono ?_; rintro e w' ⟨rfl, rfl⟩)
      | (with_reducible refine (fitsS_yes _ _ _ (by omega) (by omega) (by omega) (by omega) GS.out).mono ?_; rintro e w' ⟨rfl, rfl⟩)))
  go_ret
  exact ⟨by first | rfl | exact ret_bool (bne_iff_ne.2 (by omega)), by assumption⟩

set_option maxHeartbeats 1000000 in
theorem sums_yyn (b : Int) (w : World) (h2 : -9223372036854775808 ≤ b) (h3 : b ≤ 9223372036854775807) (gA : Yes ((-9223372036854775808) + b)) (gS : Yes ((-9223372036854775808) - b)) :
    Calls Try.prog 3 #[.int .i64 (-9223372036854775808), .int .i64 b] w fun e w' => e = .returned (.bool true) ∧ Below w.heap.size w w' := by
  have hA : -9223372036854775808 ≤ (-9223372036854775808) + b ∧ (-9223372036854775808) + b ≤ 9223372036854775807 := gA
  have hS : -9223372036854775808 ≤ (-9223372036854775808) - b ∧ (-9223372036854775808) - b ≤ 9223372036854775807 := gS
  obtain ⟨hA0, hA1⟩ := hA
  obtain ⟨hS0, hS1⟩ := hS
  have GA := Lib.hid gA
  have GS := Lib.hid gS
  clear gA gS
  go_enter Try.func3, Try.ntmps3
  go_wp2_with (first
    | (go_at_call 11; refine (awake_any _).mono ?_; rintro e w1 ⟨rfl, hb⟩)
    | (go_at_call 7; refine (add_yes _ _ _ (by omega) (by omega) (by omega) (by omega) GA.out).mono ?_; rintro e w' ⟨rfl, rfl⟩)
    | (go_at_call 8; refine (sub_yes _ _ _ (by omega) (by omega) (by omega) (by omega) GS.out).mono ?_; rintro e w' ⟨rfl, rfl⟩)
    | (go_at_call 9; refine (neg_no _).mono ?_; rintro e w' ⟨rfl, rfl⟩)
    | (go_at_call 10; first
      | (with_reducible refine (fitsA_yes _ _ _ (by omega) (by omega) (by omega) (by omega) GA.out).mono ?_; rintro e w' ⟨rfl, rfl⟩)
      | (with_reducible refine (fitsS_yes _ _ _ (by omega) (by omega) (by omega) (by omega) GS.out).mono ?_; rintro e w' ⟨rfl, rfl⟩)))
  go_ret
  exact ⟨by first | rfl | exact ret_bool (bne_iff_ne.2 (by omega)), by assumption⟩

set_option maxHeartbeats 1000000 in
theorem sums_yny (a b : Int) (w : World) (h0 : -9223372036854775808 < a) (h1 : a ≤ 9223372036854775807) (h2 : -9223372036854775808 ≤ b) (h3 : b ≤ 9223372036854775807) (gA : Yes (a + b)) (gS : ¬ Yes (a - b)) :
    Calls Try.prog 3 #[.int .i64 a, .int .i64 b] w fun e w' => e = .returned (.bool true) ∧ Below w.heap.size w w' := by
  have hA : -9223372036854775808 ≤ a + b ∧ a + b ≤ 9223372036854775807 := gA

  obtain ⟨hA0, hA1⟩ := hA

  have GA := Lib.hid gA
  have GS := Lib.hid gS
  clear gA gS
  go_enter Try.func3, Try.ntmps3
  go_wp2_with (first
    | (go_at_call 11; refine (awake_any _).mono ?_; rintro e w1 ⟨rfl, hb⟩)
    | (go_at_call 7; refine (add_yes _ _ _ (by omega) (by omega) (by omega) (by omega) GA.out).mono ?_; rintro e w' ⟨rfl, rfl⟩)
    | (go_at_call 8; refine (sub_no _ _ _ (by omega) (by omega) (by omega) (by omega) GS.out).mono ?_; rintro e w' ⟨rfl, rfl⟩)
    | (go_at_call 9; refine (neg_yes _ _ (by omega) (by omega)).mono ?_; rintro e w' ⟨rfl, rfl⟩)
    | (go_at_call 10; first
      | (with_reducible refine (fitsA_yes _ _ _ (by omega) (by omega) (by omega) (by omega) GA.out).mono ?_; rintro e w' ⟨rfl, rfl⟩)
      | (with_reducible refine (fitsS_no _ _ _ (by omega) (by omega) (by omega) (by omega) GS.out).mono ?_; rintro e w' ⟨rfl, rfl⟩)))
  go_ret
  exact ⟨by first | rfl | exact ret_bool (bne_iff_ne.2 (by omega)), by assumption⟩

set_option maxHeartbeats 1000000 in
theorem sums_ynn (b : Int) (w : World) (h2 : -9223372036854775808 ≤ b) (h3 : b ≤ 9223372036854775807) (gA : Yes ((-9223372036854775808) + b)) (gS : ¬ Yes ((-9223372036854775808) - b)) :
    Calls Try.prog 3 #[.int .i64 (-9223372036854775808), .int .i64 b] w fun e w' => e = .returned (.bool true) ∧ Below w.heap.size w w' := by
  have hA : -9223372036854775808 ≤ (-9223372036854775808) + b ∧ (-9223372036854775808) + b ≤ 9223372036854775807 := gA

  obtain ⟨hA0, hA1⟩ := hA

  have GA := Lib.hid gA
  have GS := Lib.hid gS
  clear gA gS
  go_enter Try.func3, Try.ntmps3
  go_wp2_with (first
    | (go_at_call 11; refine (awake_any _).mono ?_; rintro e w1 ⟨rfl, hb⟩)
    | (go_at_call 7; refine (add_yes _ _ _ (by omega) (by omega) (by omega) (by omega) GA.out).mono ?_; rintro e w' ⟨rfl, rfl⟩)
    | (go_at_call 8; refine (sub_no _ _ _ (by omega) (by omega) (by omega) (by omega) GS.out).mono ?_; rintro e w' ⟨rfl, rfl⟩)
    | (go_at_call 9; refine (neg_no _).mono ?_; rintro e w' ⟨rfl, rfl⟩)
    | (go_at_call 10; first
      | (with_reducible refine (fitsA_yes _ _ _ (by omega) (by omega) (by omega) (by omega) GA.out).mono ?_; rintro e w' ⟨rfl, rfl⟩)
      | (with_reducible refine (fitsS_no _ _ _ (by omega) (by omega) (by omega) (by omega) GS.out).mono ?_; rintro e w' ⟨rfl, rfl⟩)))
  go_ret
  exact ⟨by first | rfl | exact ret_bool (bne_iff_ne.2 (by omega)), by assumption⟩

set_option maxHeartbeats 1000000 in
theorem sums_nyy (a b : Int) (w : World) (h0 : -9223372036854775808 < a) (h1 : a ≤ 9223372036854775807) (h2 : -9223372036854775808 ≤ b) (h3 : b ≤ 9223372036854775807) (gA : ¬ Yes (a + b)) (gS : Yes (a - b)) :
    Calls Try.prog 3 #[.int .i64 a, .int .i64 b] w fun e w' => e = .returned (.bool true) ∧ Below w.heap.size w w' := by

  have hS : -9223372036854775808 ≤ a - b ∧ a - b ≤ 9223372036854775807 := gS

  obtain ⟨hS0, hS1⟩ := hS
  have GA := Lib.hid gA
  have GS := Lib.hid gS
  clear gA gS
  go_enter Try.func3, Try.ntmps3
  go_wp2_with (first
    | (go_at_call 11; refine (awake_any _).mono ?_; rintro e w1 ⟨rfl, hb⟩)
    | (go_at_call 7; refine (add_no _ _ _ (by omega) (by omega) (by omega) (by omega) GA.out).mono ?_; rintro e w' ⟨rfl, rfl⟩)
    | (go_at_call 8; refine (sub_yes _ _ _ (by omega) (by omega) (by omega) (by omega) GS.out).mono ?_; rintro e w' ⟨rfl, rfl⟩)
    | (go_at_call 9; refine (neg_yes _ _ (by omega) (by omega)).mono ?_; rintro e w' ⟨rfl, rfl⟩)
    | (go_at_call 10; first
      | (with_reducible refine (fitsA_no _ _ _ (by omega) (by omega) (by omega) (by omega) GA.out).mono ?_; rintro e w' ⟨rfl, rfl⟩)
      | (with_reducible refine (fitsS_yes _ _ _ (by omega) (by omega) (by omega) (by omega) GS.out).mono ?_; rintro e w' ⟨rfl, rfl⟩)))
  go_ret
  exact ⟨by first | rfl | exact ret_bool (bne_iff_ne.2 (by omega)), by assumption⟩

set_option maxHeartbeats 1000000 in
theorem sums_nyn (b : Int) (w : World) (h2 : -9223372036854775808 ≤ b) (h3 : b ≤ 9223372036854775807) (gA : ¬ Yes ((-9223372036854775808) + b)) (gS : Yes ((-9223372036854775808) - b)) :
    Calls Try.prog 3 #[.int .i64 (-9223372036854775808), .int .i64 b] w fun e w' => e = .returned (.bool true) ∧ Below w.heap.size w w' := by

  have hS : -9223372036854775808 ≤ (-9223372036854775808) - b ∧ (-9223372036854775808) - b ≤ 9223372036854775807 := gS

  obtain ⟨hS0, hS1⟩ := hS
  have GA := Lib.hid gA
  have GS := Lib.hid gS
  clear gA gS
  go_enter Try.func3, Try.ntmps3
  go_wp2_with (first
    | (go_at_call 11; refine (awake_any _).mono ?_; rintro e w1 ⟨rfl, hb⟩)
    | (go_at_call 7; refine (add_no _ _ _ (by omega) (by omega) (by omega) (by omega) GA.out).mono ?_; rintro e w' ⟨rfl, rfl⟩)
    | (go_at_call 8; refine (sub_yes _ _ _ (by omega) (by omega) (by omega) (by omega) GS.out).mono ?_; rintro e w' ⟨rfl, rfl⟩)
    | (go_at_call 9; refine (neg_no _).mono ?_; rintro e w' ⟨rfl, rfl⟩)
    | (go_at_call 10; first
      | (with_reducible refine (fitsA_no _ _ _ (by omega) (by omega) (by omega) (by omega) GA.out).mono ?_; rintro e w' ⟨rfl, rfl⟩)
      | (with_reducible refine (fitsS_yes _ _ _ (by omega) (by omega) (by omega) (by omega) GS.out).mono ?_; rintro e w' ⟨rfl, rfl⟩)))
  go_ret
  exact ⟨by first | rfl | exact ret_bool (bne_iff_ne.2 (by omega)), by assumption⟩

set_option maxHeartbeats 1000000 in
theorem sums_nny (a b : Int) (w : World) (h0 : -9223372036854775808 < a) (h1 : a ≤ 9223372036854775807) (h2 : -9223372036854775808 ≤ b) (h3 : b ≤ 9223372036854775807) (gA : ¬ Yes (a + b)) (gS : ¬ Yes (a - b)) :
    Calls Try.prog 3 #[.int .i64 a, .int .i64 b] w fun e w' => e = .returned (.bool true) ∧ Below w.heap.size w w' := by




  have GA := Lib.hid gA
  have GS := Lib.hid gS
  clear gA gS
  go_enter Try.func3, Try.ntmps3
  go_wp2_with (first
    | (go_at_call 11; refine (awake_any _).mono ?_; rintro e w1 ⟨rfl, hb⟩)
    | (go_at_call 7; refine (add_no _ _ _ (by omega) (by omega) (by omega) (by omega) GA.out).mono ?_; rintro e w' ⟨rfl, rfl⟩)
    | (go_at_call 8; refine (sub_no _ _ _ (by omega) (by omega) (by omega) (by omega) GS.out).mono ?_; rintro e w' ⟨rfl, rfl⟩)
    | (go_at_call 9; refine (neg_yes _ _ (by omega) (by omega)).mono ?_; rintro e w' ⟨rfl, rfl⟩)
    | (go_at_call 10; first
      | (with_reducible refine (fitsA_no _ _ _ (by omega) (by omega) (by omega) (by omega) GA.out).mono ?_; rintro e w' ⟨rfl, rfl⟩)
      | (with_reducible refine (fitsS_no _ _ _ (by omega) (by omega) (by omega) (by omega) GS.out).mono ?_; rintro e w' ⟨rfl, rfl⟩)))
  go_ret
  exact ⟨by first | rfl | exact ret_bool (bne_iff_ne.2 (by omega)), by assumption⟩

set_option maxHeartbeats 1000000 in
theorem sums_nnn (b : Int) (w : World) (h2 : -9223372036854775808 ≤ b) (h3 : b ≤ 9223372036854775807) (gA : ¬ Yes ((-9223372036854775808) + b)) (gS : ¬ Yes ((-9223372036854775808) - b)) :
    Calls Try.prog 3 #[.int .i64 (-9223372036854775808), .int .i64 b] w fun e w' => e = .returned (.bool true) ∧ Below w.heap.size w w' := by




  have GA := Lib.hid gA
  have GS := Lib.hid gS
  clear gA gS
  go_enter Try.func3, Try.ntmps3
  go_wp2_with (first
    | (go_at_call 11; refine (awake_any _).mono ?_; rintro e w1 ⟨rfl, hb⟩)
    | (go_at_call 7; refine (add_no _ _ _ (by omega) (by omega) (by omega) (by omega) GA.out).mono ?_; rintro e w' ⟨rfl, rfl⟩)
    | (go_at_call 8; refine (sub_no _ _ _ (by omega) (by omega) (by omega) (by omega) GS.out).mono ?_; rintro e w' ⟨rfl, rfl⟩)
    | (go_at_call 9; refine (neg_no _).mono ?_; rintro e w' ⟨rfl, rfl⟩)
    | (go_at_call 10; first
      | (with_reducible refine (fitsA_no _ _ _ (by omega) (by omega) (by omega) (by omega) GA.out).mono ?_; rintro e w' ⟨rfl, rfl⟩)
      | (with_reducible refine (fitsS_no _ _ _ (by omega) (by omega) (by omega) (by omega) GS.out).mono ?_; rintro e w' ⟨rfl, rfl⟩)))
  go_ret
  exact ⟨by first | rfl | exact ret_bool (bne_iff_ne.2 (by omega)), by assumption⟩

theorem sums_walk (a b : Int) (wa : (Lit.int .i64 a).wf = true) (wb : (Lit.int .i64 b).wf = true) (w : World) :
    Calls Try.prog 3 #[.int .i64 a, .int .i64 b] w fun e w' => e = .returned (.bool true) ∧ Below w.heap.size w w' := by
  obtain ⟨h0, h1⟩ := bounds_i64 wa
  obtain ⟨h2, h3⟩ := bounds_i64 wb
  by_cases hn : a = -9223372036854775808
  · subst hn
    by_cases gA : Yes (-9223372036854775808 + b) <;> by_cases gS : Yes (-9223372036854775808 - b)
    · exact sums_yyn b w h2 h3 gA gS
    · exact sums_ynn b w h2 h3 gA gS
    · exact sums_nyn b w h2 h3 gA gS
    · exact sums_nnn b w h2 h3 gA gS
  · by_cases gA : Yes (a + b) <;> by_cases gS : Yes (a - b)
    · exact sums_yyy a b w (by omega) h1 h2 h3 gA gS
    · exact sums_yny a b w (by omega) h1 h2 h3 gA gS
    · exact sums_nyy a b w (by omega) h1 h2 h3 gA gS
    · exact sums_nny a b w (by omega) h1 h2 h3 gA gS
end Go.Proofs.Ytbchcggbdcifhaa
