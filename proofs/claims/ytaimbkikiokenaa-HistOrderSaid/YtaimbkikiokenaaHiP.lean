/- What noting tells, case by case. -/
import Derived.Test.YtaimbkikiokenaaHiN
namespace Go.Proofs.Ytaimbkikiokenaa.Hi
open Go.RowKit Go.Proofs.Ytaimbkikiokenaa Go.Maps
set_option linter.unusedVariables false
section
variable {xs : List Sp} {a c n e t : Int}
theorem note1_again {i : Nat} (hf : fnd xs c n = some i) : noteS xs a ⟨1, c, n, e, t⟩ = none := by
  unfold noteS; dsimp only; rw [if_pos rfl, hf, if_neg (by simp)]
theorem note1_neg (hn : n < 0) : noteS xs a ⟨1, c, n, e, t⟩ = none := by
  unfold noteS; dsimp only; rw [if_pos rfl, if_neg (by omega)]
theorem note1_yes (hf : fnd xs c n = none) (hn : 0 ≤ n) (h : n = 0 ∨ aheadB xs c (n - 1) = true) : noteS xs a ⟨1, c, n, e, t⟩ = some (xs ++ [nsp c n a]) := by
  unfold noteS; dsimp only; rw [if_pos rfl, if_pos ⟨hf, hn, h⟩]
theorem note1_no (h : ¬ (n = 0 ∨ aheadB xs c (n - 1) = true)) : noteS xs a ⟨1, c, n, e, t⟩ = none := by
  unfold noteS; dsimp only; rw [if_pos rfl, if_neg (fun g => h g.2.2)]
theorem ahead_none (hf : fnd xs c n = none) : ¬ aheadB xs c n = true := by unfold aheadB; rw [hf]; simp
theorem ahead_some {i : Nat} {x : Sp} (hf : fnd xs c n = some i) (hx : xs[i]? = some x) : aheadB xs c n = decide (0 ≤ x.reply) := by unfold aheadB; rw [hf]; simp only [hx]
theorem note2_none (hf : fnd xs c n = none) : noteS xs a ⟨2, c, n, e, t⟩ = none := by
  unfold noteS; dsimp only; rw [if_neg (by decide), if_pos rfl, hf]
theorem note2_yes {i : Nat} {x : Sp} (hf : fnd xs c n = some i) (hx : xs[i]? = some x) (h : x.turn < 0 ∧ x.reply < 0) : noteS xs a ⟨2, c, n, e, t⟩ = some (xs.set i { x with turn := a, err := e, tick := t }) := by
  unfold noteS; dsimp only; rw [if_neg (by decide), if_pos rfl, hf]; simp only [hx]; rw [if_pos h]
theorem note2_no {i : Nat} {x : Sp} (hf : fnd xs c n = some i) (hx : xs[i]? = some x) (h : ¬ (x.turn < 0 ∧ x.reply < 0)) : noteS xs a ⟨2, c, n, e, t⟩ = none := by
  unfold noteS; dsimp only; rw [if_neg (by decide), if_pos rfl, hf]; simp only [hx]; rw [if_neg h]
theorem note3_none (hf : fnd xs c n = none) : noteS xs a ⟨3, c, n, e, t⟩ = none := by
  unfold noteS; dsimp only; rw [if_neg (by decide), if_neg (by decide), if_pos rfl, hf]
theorem note3_yes {i : Nat} {x : Sp} (hf : fnd xs c n = some i) (hx : xs[i]? = some x) (h : x.reply < 0 ∧ (x.turn < 0 ∨ (x.err = e ∧ x.tick = t))) : noteS xs a ⟨3, c, n, e, t⟩ = some (xs.set i { x with reply := a, err := e, tick := t }) := by
  unfold noteS; dsimp only; rw [if_neg (by decide), if_neg (by decide), if_pos rfl, hf]; simp only [hx]; rw [if_pos h]
theorem note3_no {i : Nat} {x : Sp} (hf : fnd xs c n = some i) (hx : xs[i]? = some x) (h : ¬ (x.reply < 0 ∧ (x.turn < 0 ∨ (x.err = e ∧ x.tick = t)))) : noteS xs a ⟨3, c, n, e, t⟩ = none := by
  unfold noteS; dsimp only; rw [if_neg (by decide), if_neg (by decide), if_pos rfl, hf]; simp only [hx]; rw [if_neg h]
theorem note_other {k : Int} (h1 : k ≠ 1) (h2 : k ≠ 2) (h3 : k ≠ 3) : noteS xs a ⟨k, c, n, e, t⟩ = none := by
  unfold noteS; dsimp only; rw [if_neg h1, if_neg h2, if_neg h3]
theorem fndI_some {i : Nat} (hf : fnd xs c n = some i) : fndI xs c n = (i : Int) := by unfold fndI; rw [hf]
theorem fndI_none (hf : fnd xs c n = none) : fndI xs c n = -1 := by unfold fndI; rw [hf]
end
end Go.Proofs.Ytaimbkikiokenaa.Hi
