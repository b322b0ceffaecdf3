/- The law's own awake answers true; what was there stays. And the law TextClasses. -/
import Derived.Test.YtolbjbgeddjbaaaTextQuoted
import Derived.Test.YtolbjbgeddjbaaaTextLclass
namespace Go.Proofs.Ytolbjbgeddjbaaa.Text
open Go.RowKit Go.Proofs.Ytolbjbgeddjbaaa
set_option linter.unusedVariables false

theorem classes_one (w : World) (x : Int) (g : Nat) (hg : g = w.heap.size) : Classes (w.alloc (.cells #[.int .i64 x] 3)) g 0 1 [x] :=
  ⟨rfl, by omega, fun j hj => by
    subst hg
    obtain rfl : j = 0 := by simpa using hj
    simp⟩
theorem run_is (b k g o n c k' : Nat) (s t : ByteArray) (cl : List Int) (w : World) (hr : Rd w b s k) (hk : k ≤ s.size) (hs : s.size ≤ 9223372036854775807) (hc : Classes w g o n cl) (hn : n ≤ 9223372036854775807)
    (h1 : k + runN cl (s.data.toList.drop k) = k') (h2 : s.extract k k' = t) :
    Calls Try.prog 24 #[.pointer (some ⟨b, 0, none⟩), .slice (some ⟨g, o, none⟩) n c] w fun e w' => e = .returned (.string t) ∧ Rd w' b s k' ∧ w.grownBy w' (some b) :=
  (run_any b k g o n c s cl w hr hk hs hc hn).mono fun _ _ ⟨a1, a2, a3⟩ => ⟨a1.trans (by rw [h1, h2]), by rw [← h1]; exact a2, a3⟩
theorem quoted_is (b k k' : Nat) (s t : ByteArray) (r : Bool) (w : World) (hr : Rd w b s k) (hk : k ≤ s.size) (hs : s.size ≤ 4611686018427387904) (h1 : k + quN s k = k') (h2 : s.extract k k' = t) (h3 : decide (0 < quN s k) = r) :
    Calls Try.prog 28 #[.pointer (some ⟨b, 0, none⟩)] w fun e w' => e = .returned (.tuple #[.string t, .bool r]) ∧ Rd w' b s k' ∧ w.grownBy w' (some b) :=
  (quoted_any b k s w hr hk hs).mono fun _ _ ⟨a1, a2, a3⟩ => ⟨a1.trans (by rw [h1, h2, h3]), by rw [← h1]; exact a2, a3⟩
theorem left_is (b k : Nat) (s : ByteArray) (w : World) (n : Int) (hr : Rd w b s k) (hk : k ≤ s.size) (hs : s.size ≤ 9223372036854775807) (h : (s.size : Int) - k = n) :
    Calls Try.prog 26 #[.pointer (some ⟨b, 0, none⟩)] w fun e w' => e = .returned (.int .i64 n) ∧ ∃ n, w' = w.drewN n :=
  (left_any b k s w hr hk hs).mono fun _ _ ⟨a1, a2⟩ => ⟨a1.trans (by rw [h]), a2⟩
theorem class_is (c r : Int) (w : World) (h0 : 0 ≤ c) (h1 : c ≤ 255) (h : clsV c = r) :
    Calls Try.prog 20 #[.int .u8 c] w fun e w' => e = .returned (.int .i64 r) ∧ w = w' :=
  (class_any c w h0 h1).mono fun _ _ ⟨a1, a2⟩ => ⟨a1.trans (by rw [h]), a2⟩
set_option maxHeartbeats 1000000 in
theorem awake_any (w : World) : Calls Try.prog 19 #[] w fun e w' => e = .returned (.bool true) ∧ Below w.heap.size w w' := by
  go_enter Try.func19, Try.ntmps19
  go_wp2_with fail
  refine (new_any _ _).mono ?_
  rintro e w1 ⟨rfl, rfl⟩
  have r0 : Rd (w.alloc (.cells #[.string ⟨#[97, 98, 49, 32, 39, 120, 39, 39, 121, 39]⟩, .int .i64 0] 68)) w.heap.size ⟨#[97, 98, 49, 32, 39, 120, 39, 39, 121, 39]⟩ 0 := Row.made _ _ _
  go_wp2_with fail
  refine (run_is w.heap.size 0 (w.heap.size + 1) 0 1 1 2 _ ⟨#[97, 98]⟩ [2] _ (Row.alloc r0 _) (by decide) (by decide) (classes_one _ _ _ (by simp)) (by decide) (by decide) (by decide)).mono ?_
  rintro e w1 ⟨rfl, r1, g1⟩
  go_wp2_with fail
  refine (run_is w.heap.size 2 w1.heap.size 0 1 1 3 _ ⟨#[49]⟩ [3] _ (Row.alloc r1 _) (by decide) (by decide) (classes_one _ _ _ rfl) (by decide) (by decide) (by decide)).mono ?_
  rintro e w2 ⟨rfl, r2, g2⟩
  go_wp2_with fail
  refine (run_is w.heap.size 3 w2.heap.size 0 1 1 4 _ ⟨#[32]⟩ [1] _ (Row.alloc r2 _) (by decide) (by decide) (classes_one _ _ _ rfl) (by decide) (by decide) (by decide)).mono ?_
  rintro e w3 ⟨rfl, r3, g3⟩
  go_wp2_with fail
  refine (quoted_is w.heap.size 4 10 _ ⟨#[39, 120, 39, 39, 121, 39]⟩ true _ r3 (by decide) (by decide) (by decide) (by decide) (by decide)).mono ?_
  rintro e w4 ⟨rfl, r4, g4⟩
  go_wp2_with fail
  refine (left_is w.heap.size 10 _ _ 0 r4 (by decide) (by decide) (by decide)).mono ?_
  rintro e w' ⟨rfl, n, rfl⟩
  go_wp2_with fail
  refine (class_is 40 4 _ (by decide) (by decide) (by decide)).mono ?_
  rintro e w' ⟨rfl, rfl⟩
  go_wp2
  go_ret
  have b1 : Below w.heap.size w w1 := (((Below.refl _ w).alloc (Nat.le_refl _) _).alloc (by simp) _).grown g1 (by simp; omega) (by simp)
  have b2 : Below w.heap.size w w2 := (b1.alloc b1.size _).grown g2 (by have := b1.size; simp; omega) (by simp)
  have b3 : Below w.heap.size w w3 := (b2.alloc b2.size _).grown g3 (by have := b2.size; simp; omega) (by simp)
  have b4 : Below w.heap.size w w4 := b3.grown g4 b3.size (by simp)
  exact ⟨rfl, b4.grown (grown_drewN _ n none) b4.size (by simp)⟩

theorem classes_law (a : Int) (wa : (Lit.int .u8 a).wf = true) (w : World) :
    Calls Try.prog 6 #[.int .u8 a] w fun e w' => e = .returned (.bool true) ∧ Below w.heap.size w w' := by
  obtain ⟨h0, h1⟩ := bounds_u8 wa
  have hv : (clsV a == clsV a) = true := by simp
  generalize hc : clsV a = r at hv
  have HC := Lib.hid hc
  clear hc
  go_enter Try.func6, Try.ntmps6
  go_wp2_with (first
    | (go_at_call 19; refine (awake_any w).mono ?_; rintro e w1 ⟨rfl, hb⟩)
    | (go_at_call 20; refine (class_is a r _ h0 h1 HC.out).mono ?_; rintro e w' ⟨rfl, rfl⟩)
    | (go_at_call 21; refine (lclass_any a _ h0 h1).mono ?_; rintro e w' ⟨rfl, rfl⟩; rw [HC.out]))
  go_ret
  exact ⟨rfl, by assumption⟩
end Go.Proofs.Ytolbjbgeddjbaaa.Text
