/- What replacing marks by two, and two by one, comes to: plain mathematics. -/
import Derived.Lib.ReplaceLaws
import Derived.Lib.CountLaws
import Derived.Lib.IndexMore
namespace Go.Proofs.YtookojgemipakaaDoor.Vd
set_option linter.unusedVariables false
open Go.Lib
/-- All instances replaced. -/
def Rp (old new s : List UInt8) : List UInt8 := replaceK old new (count s old) s
theorem replaceAll_Rp {old new : List UInt8} (h : old ≠ new) (s : List UInt8) : replaceAll s old new = Rp old new s := by
  have hb : (old == new) = false := beq_eq_false_iff_ne.2 h
  unfold replaceAll replace Rp replaceNum
  rw [hb, if_neg (by simp), if_pos (by omega)]
theorem Rp_nil {old new : List UInt8} (h : old ≠ []) : Rp old new [] = [] := by
  have hi : index [] old = -1 := by
    unfold index
    cases old with
    | nil => exact absurd rfl h
    | cons => rfl
  unfold Rp
  rw [count_miss hi]
  rfl
theorem Rp_hit {old new s : List UInt8} (h : old ≠ []) (hp : old.isPrefixOf s = true) : Rp old new s = new ++ Rp old new (s.drop old.length) := by
  have hi : index s old = (0 : Nat) := by
    cases s with
    | nil => cases old with
      | nil => exact absurd rfl h
      | cons => cases hp
    | cons b l => unfold index; rw [if_pos hp]; rfl
  unfold Rp
  rw [count_hit h hi, Nat.add_comm 1, replaceK_hit old new _ s 0 hi]
  simp
theorem Rp_miss {old new : List UInt8} {c : UInt8} {s : List UInt8} (h : old ≠ []) (hp : old.isPrefixOf (c :: s) = false) : Rp old new (c :: s) = c :: Rp old new s := by
  have hx : index (c :: s) old = if index s old == -1 then -1 else index s old + 1 := by
    conv => lhs; unfold index
    rw [hp]
    rfl
  rcases index_spec s old with ⟨hm, _⟩ | ⟨i, hi, _, _, _⟩
  · have h1 : index (c :: s) old = -1 := by rw [hx, hm]; rfl
    unfold Rp
    rw [count_miss h1, count_miss hm]
    rfl
  · have h1 : index (c :: s) old = ((i + 1 : Nat) : Int) := by
      rw [hx, hi, if_neg (by rw [beq_iff_eq]; omega)]
      omega
    unfold Rp
    rw [count_hit h h1, count_hit h hi, Nat.add_comm 1, replaceK_hit old new _ _ _ h1, Nat.add_comm 1, replaceK_hit old new _ _ _ hi]
    rw [show i + 1 + old.length = (i + old.length) + 1 by omega]
    simp
/-- Each mark twice. -/
def dbl : List UInt8 → List UInt8
  | [] => []
  | c :: r => if c = 39 then 39 :: 39 :: dbl r else c :: dbl r
/-- Of two marks one. -/
def und : List UInt8 → List UInt8
  | 39 :: 39 :: r => 39 :: und r
  | c :: r => c :: und r
  | [] => []
theorem rp_dbl : ∀ s : List UInt8, Rp [39] [39, 39] s = dbl s
  | [] => Rp_nil (by decide)
  | c :: r => by
    by_cases h : c = 39
    · subst h
      rw [Rp_hit (by decide) rfl]
      have := rp_dbl r
      simp [dbl, this]
    · rw [Rp_miss (by decide) (by simp [List.isPrefixOf]; exact fun e => h e.symm), rp_dbl r]
      simp [dbl, h]
theorem rp_und : ∀ (n : Nat) (s : List UInt8), s.length ≤ n → Rp [39, 39] [39] s = und s
  | _, [], _ => Rp_nil (by decide)
  | 0, c :: r, h => by simp at h
  | n + 1, [c], h => by
    rw [Rp_miss (by decide) (by simp [List.isPrefixOf]), Rp_nil (by decide)]
    unfold und
    split <;> simp_all [und]
  | n + 1, c :: d :: r, h => by
    by_cases h1 : c = 39 ∧ d = 39
    · obtain ⟨rfl, rfl⟩ := h1
      rw [Rp_hit (by decide) rfl]
      have := rp_und n r (by simp at h; omega)
      simp [und, this]
    · rw [Rp_miss (by decide) (by simp [List.isPrefixOf]; intro e e2; exact h1 ⟨e.symm, e2.symm⟩), rp_und n (d :: r) (by simp at h ⊢; omega)]
      conv => rhs; unfold und
      split
      · rename_i e; simp at e; exact absurd ⟨e.1, e.2.1⟩ h1
      · rename_i e; simp at e; obtain ⟨rfl, rfl⟩ := e; rfl
      · rename_i e; simp at e
theorem dbl_len (s : List UInt8) : s.length ≤ (dbl s).length ∧ (dbl s).length ≤ 2 * s.length := by
  induction s with
  | nil => simp [dbl]
  | cons c r ih => unfold dbl; split <;> simp <;> omega
theorem und_len : ∀ (n : Nat) (s : List UInt8), s.length ≤ n → (und s).length ≤ s.length
  | _, [], _ => by simp [und]
  | 0, c :: r, h => by simp at h
  | n + 1, [c], h => by unfold und; split <;> simp_all [und]
  | n + 1, c :: d :: r, h => by
    unfold und
    split
    · rename_i e; simp at e; obtain ⟨_, _, rfl⟩ := e
      have := und_len n _ (show List.length r ≤ n by simp at h; omega)
      simp; omega
    · rename_i e; simp at e; obtain ⟨rfl, rfl⟩ := e
      have := und_len n (d :: r) (by simp at h ⊢; omega)
      simp at this ⊢; omega
    · rename_i e; simp at e
/-- What was doubled comes back. -/
theorem und_dbl : ∀ s : List UInt8, und (dbl s) = s
  | [] => rfl
  | c :: r => by
    by_cases h : c = 39
    · subst h
      simp [dbl, und, und_dbl r]
    · have := und_dbl r
      simp only [dbl, if_neg h]
      conv => lhs; unfold und
      split
      · rename_i e; simp at e; exact absurd e.1 h
      · rename_i e; simp at e; obtain ⟨rfl, rfl⟩ := e; rw [this]
      · rename_i e; simp at e
end Go.Proofs.YtookojgemipakaaDoor.Vd
