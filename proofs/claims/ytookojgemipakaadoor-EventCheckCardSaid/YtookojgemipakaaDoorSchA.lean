/- Bytes of names, words, kinds. -/
import Derived.Test.YtookojgemipakaaDoorKit
import Derived.Test.YtookojgemipakaaDoorMem
namespace Go.Proofs.YtookojgemipakaaDoor.Sch
open Go.RowKit Go.Proofs.YtookojgemipakaaDoor
set_option linter.unusedVariables false

theorem ne_false {a b : Int} (h : a ≠ b) : (a == b) = false := by simpa using h
def isLet (c : Int) : Bool := decide ((97 ≤ c ∧ c ≤ 122) ∨ (65 ≤ c ∧ c ≤ 90) ∨ c = 95)
def isDig (c : Int) : Bool := decide (48 ≤ c ∧ c ≤ 57)
theorem letter_any (c : Int) (w : World) (h0 : 0 ≤ c) (h1 : c ≤ 255) :
    Calls Tryd.prog 74 #[.int .u8 c] w fun e w' => e = .returned (.bool (isLet c)) ∧ w = w' := by
  rcases (show (c < 65 ∧ c < 97 ∧ c ≠ 95 ∧ isLet c = false) ∨ (65 ≤ c ∧ c ≤ 90 ∧ c < 97 ∧ isLet c = true) ∨ (90 < c ∧ 65 ≤ c ∧ c < 97 ∧ c ≠ 95 ∧ isLet c = false) ∨ (c = 95 ∧ isLet c = true) ∨ (97 ≤ c ∧ c ≤ 122 ∧ isLet c = true) ∨ (122 < c ∧ 97 ≤ c ∧ 65 ≤ c ∧ 90 < c ∧ c ≠ 95 ∧ isLet c = false) from by
    unfold isLet; simp only [decide_eq_true_eq, decide_eq_false_iff_not]; omega) with ⟨a, b, d, e⟩ | ⟨a, b, d, e⟩ | ⟨a, b, d, d', e⟩ | ⟨rfl, e⟩ | ⟨a, b, e⟩ | ⟨a, b, d, d', d'', e⟩
  all_goals
    rw [e]
    clear e
    try have e95 := ne_false (show c ≠ 95 by omega)
    go_enter Tryd.func74, Tryd.ntmps74
    go_wp2
    go_ret
    first | exact ⟨rfl, rfl⟩ | exact ⟨by simp; omega, rfl⟩
theorem digit_any (c : Int) (w : World) (h0 : 0 ≤ c) (h1 : c ≤ 255) :
    Calls Tryd.prog 72 #[.int .u8 c] w fun e w' => e = .returned (.bool (isDig c)) ∧ w = w' := by
  rcases (show (c < 48 ∧ isDig c = false) ∨ (48 ≤ c ∧ c ≤ 57 ∧ isDig c = true) ∨ (57 < c ∧ 48 ≤ c ∧ isDig c = false) from by
    unfold isDig; simp only [decide_eq_true_eq, decide_eq_false_iff_not]; omega) with ⟨a, e⟩ | ⟨a, b, e⟩ | ⟨a, b, e⟩
  all_goals
    rw [e]
    clear e
    go_enter Tryd.func72, Tryd.ntmps72
    go_wp2
    go_ret
    first | exact ⟨rfl, rfl⟩ | exact ⟨by simp; omega, rfl⟩
def kindB (k : Int) : Bool := decide (1 ≤ k ∧ k ≤ 3)
theorem kind_any (k : Int) (w : World) :
    Calls Tryd.prog 54 #[.int .i64 k] w fun e w' => e = .returned (.bool (kindB k)) ∧ w = w' := by
  rcases (show k = 1 ∨ k = 2 ∨ k = 3 ∨ ((k ≠ 1 ∧ k ≠ 2 ∧ k ≠ 3) ∧ kindB k = false) from by
    unfold kindB; simp only [decide_eq_false_iff_not]; omega) with rfl | rfl | rfl | ⟨⟨a, b, d⟩, e⟩
  · go_enter Tryd.func54, Tryd.ntmps54
    go_wp2
    go_ret
    exact ⟨rfl, rfl⟩
  · go_enter Tryd.func54, Tryd.ntmps54
    go_wp2
    go_ret
    exact ⟨rfl, rfl⟩
  · go_enter Tryd.func54, Tryd.ntmps54
    go_wp2
    go_ret
    exact ⟨rfl, rfl⟩
  · rw [e]
    clear e
    have e1 := ne_false a
    have e2 := ne_false b
    have e3 := ne_false d
    go_enter Tryd.func54, Tryd.ntmps54
    go_wp2
    go_ret
    exact ⟨rfl, rfl⟩
/-- The language's words. -/
def words : List (List UInt8) := [[83, 69, 81], [87, 72, 69, 82, 69], [87, 73, 84, 72, 73, 78], [67, 65, 80], [97, 110, 100], [111, 114], [110, 111, 116], [116, 114, 117, 101], [102, 97, 108, 115, 101]]
def wordB (l : List UInt8) : Bool := decide (l ∈ words)
theorem of_toList {s : ByteArray} {l : List UInt8} (h : s.toList = l) : s = ⟨l.toArray⟩ := by
  rw [ByteArray.toList_eq] at h
  subst h
  cases s
  simp
theorem beq_no {a b : List UInt8} (h : ¬ a = b) : (a == b) = false := by simpa using h
theorem word_any (s : ByteArray) (w : World) :
    Calls Tryd.prog 73 #[.string s] w fun e w' => e = .returned (.bool (wordB s.toList)) ∧ w = w' := by
  by_cases h : s.toList ∈ words
  · rw [show wordB s.toList = true from by unfold wordB; exact decide_eq_true h]
    simp only [words, List.mem_cons, List.not_mem_nil, or_false] at h
    rcases h with h | h | h | h | h | h | h | h | h
    all_goals
      have h' := of_toList h
      clear h
      subst h'
      go_enter Tryd.func73, Tryd.ntmps73
      go_wp2
      go_ret
      exact ⟨rfl, rfl⟩
  · rw [show wordB s.toList = false from by unfold wordB; exact decide_eq_false h]
    simp only [words, List.mem_cons, List.not_mem_nil, or_false, not_or] at h
    obtain ⟨h1, h2, h3, h4, h5, h6, h7, h8, h9⟩ := h
    have e1 := beq_no h1
    have e2 := beq_no h2
    have e3 := beq_no h3
    have e4 := beq_no h4
    have e5 := beq_no h5
    have e6 := beq_no h6
    have e7 := beq_no h7
    have e8 := beq_no h8
    have e9 := beq_no h9
    clear h1 h2 h3 h4 h5 h6 h7 h8 h9
    go_enter Tryd.func73, Tryd.ntmps73
    go_wp2
    go_ret
    exact ⟨rfl, rfl⟩
end Go.Proofs.YtookojgemipakaaDoor.Sch
