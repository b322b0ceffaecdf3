/- Runs, read: Len, farther, Over, there, Elem, Block. -/
import Derived.Test.YtaimbkikiokenaaRnB
import Derived.Test.YtaimbkikiokenaaPaB
namespace Go.Proofs.Ytaimbkikiokenaa.Rn
open Go.RowKit Go.Proofs.Ytaimbkikiokenaa Go.Proofs.Ytaimbkikiokenaa.Ev
set_option linter.unusedVariables false
set_option maxRecDepth 100000
theorem rlen_any (pp pe : Option Addr) (st f lt lq la : Int) (b : Bool) (xs : List (List Value)) (w : World) (h : Ch 2 w w.heap.size pp xs) :
    Calls Try.prog 67 #[.agg #[.int .i64 st, .pointer pp, .pointer pe, .int .i64 f, .int .i64 lt, .int .i64 lq, .int .i64 la, .bool b]] w fun e w' => e = .returned (.int .i64 xs.length) ∧ Below w.heap.size w w' := by
  have H := Lib.hid (h.below (B' := w.heap.size) ((Below.refl _ w).alloc (Nat.le_refl _) (.cells #[.int .i64 st, .pointer pp, .pointer pe, .int .i64 f, .int .i64 lt, .int .i64 lq, .int .i64 la, .bool b] 52)) (Nat.le_refl _))
  clear h
  go_enter Try.func67, Try.ntmps67
  go_wp2_with (go_at_call 100; refine (plen_any pp xs _ _ H.out).mono ?_; rintro e w' ⟨rfl, rfl⟩)
  go_ret
  exact ⟨rfl, (Below.refl _ w).alloc (Nat.le_refl _) _⟩
theorem farther_any (a t m : Int) (w : World) (ha : 0 ≤ a ∧ a ≤ 1000) (ht : 0 ≤ t ∧ t ≤ 1000) :
    Calls Try.prog 68 #[.int .i64 a, .int .i64 t, .int .i64 m] w fun e w' => e = .returned (.bool (decide (m < t - a))) ∧ w = w' := by
  have hw : IntKind.i64.wrap (t - a) = t - a := by rw [IntKind.wrap_i64]; omega
  have hx : (!(decide (t - a < 0) == decide (t < a))) = false := by rw [show decide (t - a < 0) = decide (t < a) by rw [decide_eq_decide]; omega]; simp
  go_enter Try.func68, Try.ntmps68
  go_wp2
  go_ret
  exact ⟨rfl, rfl⟩
theorem over_no (pe : Option Addr) (st f lt lq la t win cap : Int) (b : Bool) (A : Option Addr) (n c : Nat) (w : World) :
    Calls Try.prog 23 #[.agg #[.int .i64 st, .pointer none, .pointer pe, .int .i64 f, .int .i64 lt, .int .i64 lq, .int .i64 la, .bool b], .agg #[.slice A n c, .int .i64 win, .int .i64 cap], .int .i64 t] w fun e w' => e = .returned (.bool false) ∧ Below w.heap.size w w' := by
  go_enter Try.func23, Try.ntmps23
  go_wp2_with fail
  have HB := Lib.hid (((Below.refl _ w).alloc (Nat.le_refl _) (.cells #[.int .i64 st, .pointer none, .pointer pe, .int .i64 f, .int .i64 lt, .int .i64 lq, .int .i64 la, .bool b] 52)).alloc (by simp) (.cells #[.slice A n c, .int .i64 win, .int .i64 cap] 44))
  refine (rlen_any none pe st f lt lq la b [] _ rfl).mono ?_
  rintro e w1 ⟨rfl, hb⟩
  have HB1 := Lib.hid hb
  clear hb
  go_wp2
  go_ret
  exact ⟨rfl, HB.out.trans (HB1.out.mono HB.out.size)⟩
theorem over_yes (pp pe : Option Addr) (st f lt lq la t win cap : Int) (b : Bool) (A : Option Addr) (n c : Nat) (x : List Value) (r : List (List Value)) (w : World) (h : Ch 2 w w.heap.size pp (x :: r)) (ha : 0 ≤ f ∧ f ≤ 1000) (ht : 0 ≤ t ∧ t ≤ 1000) :
    Calls Try.prog 23 #[.agg #[.int .i64 st, .pointer pp, .pointer pe, .int .i64 f, .int .i64 lt, .int .i64 lq, .int .i64 la, .bool b], .agg #[.slice A n c, .int .i64 win, .int .i64 cap], .int .i64 t] w fun e w' => e = .returned (.bool (decide (win < t - f))) ∧ Below w.heap.size w w' := by
  have H := Lib.hid h
  clear h
  have hpos : (0 : Int) < (((x :: r).length : Nat) : Int) := by simp
  obtain ⟨m, hm⟩ : ∃ m, (((x :: r).length : Nat) : Int) = m := ⟨_, rfl⟩
  rw [hm] at hpos
  have HM := Lib.hid hm
  clear hm
  go_enter Try.func23, Try.ntmps23
  go_wp2_with fail
  have HB := Lib.hid (((Below.refl _ w).alloc (Nat.le_refl _) (.cells #[.int .i64 st, .pointer pp, .pointer pe, .int .i64 f, .int .i64 lt, .int .i64 lq, .int .i64 la, .bool b] 52)).alloc (by simp) (.cells #[.slice A n c, .int .i64 win, .int .i64 cap] 44))
  have hR0 := (Row.made w 52 #[.int .i64 st, .pointer pp, .pointer pe, .int .i64 f, .int .i64 lt, .int .i64 lq, .int .i64 la, .bool b]).alloc (.cells #[.slice A n c, .int .i64 win, .int .i64 cap] 44)
  have hR1 := Row.made (w.alloc (.cells #[.int .i64 st, .pointer pp, .pointer pe, .int .i64 f, .int .i64 lt, .int .i64 lq, .int .i64 la, .bool b] 52)) 44 #[.slice A n c, .int .i64 win, .int .i64 cap]
  rw [show (w.alloc (.cells #[.int .i64 st, .pointer pp, .pointer pe, .int .i64 f, .int .i64 lt, .int .i64 lq, .int .i64 la, .bool b] 52)).heap.size = w.heap.size + 1 by simp] at hR1
  refine (rlen_any pp pe st f lt lq la b (x :: r) _ (H.out.below HB.out HB.out.size)).mono ?_
  rintro e w1 ⟨rfl, hb⟩
  have c3 : w1.cell? ⟨w.heap.size, 3, none⟩ = some (.int .i64 f) := (hR0.below hb hR0.lt).is 3 rfl
  have d1 : w1.cell? ⟨w.heap.size + 1, 1, none⟩ = some (.int .i64 win) := (hR1.below hb hR1.lt).is 1 rfl
  have HB1 := Lib.hid hb
  rw [HM.out]
  clear hb hR0 hR1
  go_wp2_with (go_at_call 68; refine (farther_any f t win _ ha ht).mono ?_; rintro e w' ⟨rfl, rfl⟩)
  go_ret
  exact ⟨rfl, HB.out.trans (HB1.out.mono HB.out.size)⟩
theorem there_any (A : Option Addr) (n c : Nat) (win cap k : Int) (w : World) :
    Calls Try.prog 70 #[.agg #[.slice A n c, .int .i64 win, .int .i64 cap], .int .i64 k] w fun e w' => e = .returned (.bool (decide (0 ≤ k ∧ k < n))) ∧ Below w.heap.size w w' := by
  by_cases h : 0 ≤ k
  · by_cases h2 : k < n
    · rw [show decide (0 ≤ k ∧ k < (n : Int)) = true from decide_eq_true (by omega)]
      go_enter Try.func70, Try.ntmps70
      go_wp2
      go_ret
      exact ⟨rfl, (Below.refl _ w).alloc (Nat.le_refl _) _⟩
    · rw [show decide (0 ≤ k ∧ k < (n : Int)) = false from decide_eq_false (by omega)]
      go_enter Try.func70, Try.ntmps70
      go_wp2
      go_ret
      exact ⟨rfl, (Below.refl _ w).alloc (Nat.le_refl _) _⟩
  · rw [show decide (0 ≤ k ∧ k < (n : Int)) = false from decide_eq_false (by omega)]
    go_enter Try.func70, Try.ntmps70
    go_wp2
    go_ret
    exact ⟨rfl, (Below.refl _ w).alloc (Nat.le_refl _) _⟩
theorem elem_yes (pp pe : Option Addr) (st f lt lq la x y : Int) (b : Bool) (r : List (List Value)) (w : World) (h : Ch 2 w w.heap.size pp ([.int .i64 x, .int .i64 y] :: r)) :
    Calls Try.prog 69 #[.agg #[.int .i64 st, .pointer pp, .pointer pe, .int .i64 f, .int .i64 lt, .int .i64 lq, .int .i64 la, .bool b]] w fun e w' => e = .returned (.int .i64 x) ∧ Below w.heap.size w w' := by
  have HB := Lib.hid ((Below.refl _ w).alloc (Nat.le_refl _) (.cells #[.int .i64 st, .pointer pp, .pointer pe, .int .i64 f, .int .i64 lt, .int .i64 lq, .int .i64 la, .bool b] 52))
  have H := Lib.hid (h.below HB.out HB.out.size)
  clear h
  go_enter Try.func69, Try.ntmps69
  go_wp2_with (go_at_call 101; refine (pnewest_yes pp x y r _ _ H.out (Nat.le_refl _)).mono ?_; rintro e w1 ⟨rfl, hb⟩; have HB1 := Lib.hid hb; clear hb)
  go_ret
  exact ⟨rfl, (HB.out.trans (HB1.out.mono HB.out.size)).alloc (by have := HB.out.size; have := HB1.out.size; omega) _⟩
theorem elem_no (pe : Option Addr) (st f lt lq la : Int) (b : Bool) (w : World) :
    Calls Try.prog 69 #[.agg #[.int .i64 st, .pointer none, .pointer pe, .int .i64 f, .int .i64 lt, .int .i64 lq, .int .i64 la, .bool b]] w fun e w' => e = .returned (.int .i64 (-1)) ∧ Below w.heap.size w w' := by
  have HB := Lib.hid ((Below.refl _ w).alloc (Nat.le_refl _) (.cells #[.int .i64 st, .pointer none, .pointer pe, .int .i64 f, .int .i64 lt, .int .i64 lq, .int .i64 la, .bool b] 52))
  go_enter Try.func69, Try.ntmps69
  go_wp2_with (go_at_call 101; refine (pnewest_no _).mono ?_; rintro e w1 ⟨rfl, hb⟩; have HB1 := Lib.hid hb; clear hb)
  go_ret
  exact ⟨rfl, (HB.out.trans (HB1.out.mono HB.out.size)).alloc (by have := HB.out.size; have := HB1.out.size; omega) _⟩
theorem block_any (pp pe : Option Addr) (st f lt lq la : Int) (b : Bool) (w : World) :
    Calls Try.prog 27 #[.agg #[.int .i64 st, .pointer pp, .pointer pe, .int .i64 f, .int .i64 lt, .int .i64 lq, .int .i64 la, .bool b]] w fun e w' => e = .returned (.agg #[.int .i64 st, .pointer pp, .pointer pe, .int .i64 f, .int .i64 lt, .int .i64 lq, .int .i64 la, .bool true]) ∧ Below w.heap.size w w' := by
  go_enter Try.func27, Try.ntmps27
  go_wp2
  exact bodyPost_ret (v := .agg #[.int .i64 st, .pointer pp, .pointer pe, .int .i64 f, .int .i64 lt, .int .i64 lq, .int .i64 la, .bool true]) (by simp [results, Try.results27, go_sem]; try rfl) rfl ⟨rfl, ((Below.refl _ w).alloc (Nat.le_refl _) _).alloc (by simp) _⟩
end Go.Proofs.Ytaimbkikiokenaa.Rn
