/- How two events stand: compare, Before, stamps. -/
import Derived.Test.YtookojgemipakaaDoorE4E
import Derived.Test.YtookojgemipakaaDoorOrEvl
import Derived.Deep.RegionHeld3
import Derived.LoopN
namespace Go.Proofs.YtookojgemipakaaDoor.E6
open Go.RowKit Go.Proofs.YtookojgemipakaaDoor Go.Proofs.YtookojgemipakaaDoor.Ev Go.Proofs.YtookojgemipakaaDoor.Evl Go.Proofs.YtookojgemipakaaDoor.E4
set_option linter.unusedVariables false
set_option maxRecDepth 100000
def cmp3 (x y : Int) : Int := if x < y then -1 else if y < x then 1 else 0
theorem nan64 (n : Int) (w : World) : Calls Tryd.prog 89 #[.int .i64 n] w fun e w' => e = .returned (.bool false) ∧ w = w' := by
  go_enter Tryd.func89, Tryd.ntmps89
  go_wp2
  go_ret
  exact ⟨rfl, rfl⟩
theorem ret_i {a b : Int} (h : a = b) : Ending.returned (.int .i64 a) = .returned (.int .i64 b) := by rw [h]
theorem cmp64 (a b : Int) (w : World) : Calls Tryd.prog 67 #[.int .i64 a, .int .i64 b] w fun e w' => e = .returned (.int .i64 (cmp3 a b)) ∧ w = w' := by
  go_enter Tryd.func67, Tryd.ntmps67
  go_wp2_with fail
  refine (nan64 _ _).mono ?_
  rintro e w1 ⟨rfl, rfl⟩
  go_wp2_with fail
  refine (nan64 _ _).mono ?_
  rintro e w1 ⟨rfl, rfl⟩
  go_wp2
  all_goals
    go_ret
    refine ⟨ret_i ?_, rfl⟩
    unfold cmp3
    first
      | rw [if_pos (by omega)]
      | rw [if_neg (by omega), if_pos (by omega)]
      | rw [if_neg (by omega), if_neg (by omega)]
def or2 (x y : Int) : Int := if x = 0 then y else x
theorem or_any (g : Nat) (x y : Int) (w : World) (h : Row w g 3 #[.int .i64 x, .int .i64 y]) :
    Calls Tryd.prog 66 #[.slice (some ⟨g, 0, none⟩) 2 2] w fun e w' => e = .returned (.int .i64 (or2 x y)) ∧ w = w' := by
  have c0 : w.cell? ⟨g, 0, none⟩ = some (.int .i64 x) := (h.cell 0).trans rfl
  have c1 : w.cell? ⟨g, 1, none⟩ = some (.int .i64 y) := (h.cell 1).trans rfl
  by_cases hx : x = 0
  · subst hx
    by_cases hy : y = 0
    · subst hy
      go_enter Tryd.func66, Tryd.ntmps66
      go_wp2
      refine wp_loop_rounds 3 ?_
      rw [rounds_succ]
      go_wp2
      rw [rounds_succ]
      go_wp2
      rw [rounds_succ]
      go_wp2
      go_ret
      exact ⟨rfl, rfl⟩
    · have hyb : (y != 0) = true := by simp [hy]
      go_enter Tryd.func66, Tryd.ntmps66
      go_wp2
      refine wp_loop_rounds 3 ?_
      rw [rounds_succ]
      go_wp2
      rw [rounds_succ]
      go_wp2
      go_ret
      exact ⟨rfl, rfl⟩
  · have hxb : (x != 0) = true := by simp [hx]
    have HX := Lib.hid hx
    go_enter Tryd.func66, Tryd.ntmps66
    go_wp2
    refine wp_loop_rounds 3 ?_
    rw [rounds_succ]
    go_wp2
    go_ret
    exact ⟨ret_i (by unfold or2; rw [if_neg HX.out]), rfl⟩
/-- How two events stand, by their times and numbers. -/
def cmpE (t q t' q' : Int) : Int := or2 (cmp3 t t') (cmp3 q q')
def bef (t q t' q' : Int) : Bool := decide (t < t') || (decide (t = t') && decide (q < q'))
theorem cmpE_neg (t q t' q' : Int) : decide (cmpE t q t' q' < 0) = bef t q t' q' := by
  unfold cmpE or2 cmp3 bef
  by_cases h1 : t < t'
  · simp [h1]
  · by_cases h2 : t' < t
    · simp [h1, h2]; omega
    · have : t = t' := by omega
      subst this
      by_cases h3 : q < q'
      · simp [h3]
      · by_cases h4 : q' < q
        · simp [h3, h4]
        · simp [h3, h4]
theorem ref_before (s1 s2 s3 s4 : ByteArray) (t q t' q' : Int) (A B : Option Addr) (n m c d : Nat) (w : World) :
    Calls Tryd.prog 18 #[.agg #[.string s1, .string s2, .int .i64 t, .int .i64 q, .slice A n c], .agg #[.string s3, .string s4, .int .i64 t', .int .i64 q', .slice B m d]] w fun e w' => e = .returned (.bool (bef t q t' q')) ∧ Below w.heap.size w w' := by
  obtain ⟨b, hb⟩ : ∃ b, bef t q t' q' = b := ⟨_, rfl⟩
  rw [hb]
  unfold bef at hb
  by_cases h1 : t < t'
  · have hd : decide (t < t') = true := decide_eq_true h1
    rw [hd] at hb
    have HB := Lib.hid (show true = b from hb)
    clear hb h1
    go_enter Tryd.func18, Tryd.ntmps18
    go_wp2
    go_ret
    exact ⟨by rw [← HB.out]; rfl, by go_grown⟩
  · have hd : decide (t < t') = false := decide_eq_false h1
    rw [hd] at hb
    by_cases h2 : t = t'
    · subst h2
      have HB := Lib.hid (show decide (q < q') = b from by simpa using hb)
      have hq : decide (q < q') = b := HB.out
      clear hb h1
      go_enter Tryd.func18, Tryd.ntmps18
      go_wp2
      go_ret
      exact ⟨by rfl, by go_grown⟩
    · have he : (t == t') = false := by simp [h2]
      have HB := Lib.hid (show false = b from by simpa [h2] using hb)
      clear hb h1 h2
      go_enter Tryd.func18, Tryd.ntmps18
      go_wp2
      go_ret
      exact ⟨by rw [← HB.out]; rfl, by go_grown⟩
def lessS (t q a t' q' a' : Int) : Bool := if t = t' then (if q = q' then decide (a < a') else decide (q < q')) else decide (t < t')
theorem less_any (t q a t' q' a' : Int) (w : World) :
    Calls Tryd.prog 21 #[.agg #[.int .i64 t, .int .i64 q, .int .i64 a], .agg #[.int .i64 t', .int .i64 q', .int .i64 a']] w fun e w' => e = .returned (.bool (lessS t q a t' q' a')) ∧ Below w.heap.size w w' := by
  by_cases h1 : t = t'
  · subst h1
    by_cases h2 : q = q'
    · subst h2
      have HL : Hid (lessS t q a t q a' = decide (a < a')) := by show _ = _; unfold lessS; rw [if_pos rfl, if_pos rfl]
      obtain ⟨b, hb⟩ : ∃ b, decide (a < a') = b := ⟨_, rfl⟩
      rw [hb] at HL
      go_enter Tryd.func21, Tryd.ntmps21
      go_wp2
      go_ret
      exact ⟨by rw [HL.out]; rfl, by go_grown⟩
    · have h2b : (q != q') = true := by simp [h2]
      have HL : Hid (lessS t q a t q' a' = decide (q < q')) := by show _ = _; unfold lessS; rw [if_pos rfl, if_neg h2]
      obtain ⟨b, hb⟩ : ∃ b, decide (q < q') = b := ⟨_, rfl⟩
      rw [hb] at HL
      clear h2
      go_enter Tryd.func21, Tryd.ntmps21
      go_wp2
      go_ret
      exact ⟨by rw [HL.out]; rfl, by go_grown⟩
  · have h1b : (t != t') = true := by simp [h1]
    have HL : Hid (lessS t q a t' q' a' = decide (t < t')) := by show _ = _; unfold lessS; rw [if_neg h1]
    obtain ⟨b, hb⟩ : ∃ b, decide (t < t') = b := ⟨_, rfl⟩
    rw [hb] at HL
    clear h1
    go_enter Tryd.func21, Tryd.ntmps21
    go_wp2
    go_ret
    exact ⟨by rw [HL.out]; rfl, by go_grown⟩
end Go.Proofs.YtookojgemipakaaDoor.E6
