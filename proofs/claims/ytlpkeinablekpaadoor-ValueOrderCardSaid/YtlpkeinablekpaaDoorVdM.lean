/- Values stand in an order: plain mathematics. -/
import Derived.Test.YtlpkeinablekpaaDoorEvlA
namespace Go.Proofs.YtlpkeinablekpaaDoor.Vd
open Go.Proofs.YtlpkeinablekpaaDoor Go.Proofs.YtlpkeinablekpaaDoor.Ev Go.Proofs.YtlpkeinablekpaaDoor.Evl
set_option linter.unusedVariables false
theorem bl_self : ∀ l : List UInt8, Op.bytesLess l l = false
  | [] => rfl
  | a :: l => by simp [Op.bytesLess, bl_self l]
theorem bl_asymm : ∀ a b : List UInt8, Op.bytesLess a b = true → Op.bytesLess b a = false
  | a, [], h => by cases a <;> cases h
  | [], _ :: _, _ => rfl
  | x :: a, y :: b, h => by
    simp only [Op.bytesLess, Bool.or_eq_true, decide_eq_true_eq, Bool.and_eq_true, beq_iff_eq] at h
    have ih := bl_asymm a b
    have : ¬ (y < x ∨ y = x ∧ Op.bytesLess b a = true) := by
      rintro (h1 | ⟨rfl, h2⟩)
      · rcases h with h | ⟨rfl, _⟩
        · exact absurd (UInt8.lt_trans h h1) (UInt8.lt_irrefl _)
        · exact absurd h1 (UInt8.lt_irrefl _)
      · rcases h with h | ⟨_, h⟩
        · exact absurd h (UInt8.lt_irrefl _)
        · rw [ih h] at h2; cases h2
    rw [← Bool.not_eq_true]
    simpa only [Op.bytesLess, Bool.or_eq_true, decide_eq_true_eq, Bool.and_eq_true, beq_iff_eq] using this
theorem bl_total : ∀ a b : List UInt8, Op.bytesLess a b = false → Op.bytesLess b a = false → a = b
  | [], [], _, _ => rfl
  | _ :: _, [], _, h => by cases h
  | [], _ :: _, h, _ => by cases h
  | x :: a, y :: b, h, k => by
    simp only [Op.bytesLess, Bool.or_eq_false_iff, decide_eq_false_iff_not, Bool.and_eq_false_iff, beq_eq_false_iff_ne] at h k
    have e : x = y := by
      have h1 := h.1
      have k1 := k.1
      rw [UInt8.lt_iff_toNat_lt] at h1 k1
      exact UInt8.toNat_inj.1 (by omega)
    subst e
    rw [bl_total a b (h.2.resolve_left (fun x => x rfl)) (k.2.resolve_left (fun x => x rfl))]
theorem bl_trans : ∀ a b c : List UInt8, Op.bytesLess a b = true → Op.bytesLess b c = true → Op.bytesLess a c = true
  | a, [], _, h, _ => by cases a <;> cases h
  | a, _ :: _, [], _, h => by cases h
  | [], _ :: _, _ :: _, _, _ => rfl
  | x :: a, y :: b, z :: c, h, k => by
    simp only [Op.bytesLess, Bool.or_eq_true, decide_eq_true_eq, Bool.and_eq_true, beq_iff_eq] at h k ⊢
    rcases h with h | ⟨rfl, h⟩
    · rcases k with k | ⟨rfl, _⟩
      · exact .inl (UInt8.lt_trans h k)
      · exact .inl h
    · rcases k with k | ⟨rfl, k⟩
      · exact .inl k
      · exact .inr ⟨rfl, bl_trans a b c h k⟩
theorem cmpI_vals (a b : Int) : (cmpI a b = -1 ∧ a < b) ∨ (cmpI a b = 0 ∧ a = b) ∨ (cmpI a b = 1 ∧ b < a) := by
  unfold cmpI
  by_cases h : a < b
  · rw [if_pos h]; exact .inl ⟨rfl, h⟩
  · rw [if_neg h]
    by_cases k : b < a
    · rw [if_pos k]; exact .inr (.inr ⟨rfl, k⟩)
    · rw [if_neg k]; exact .inr (.inl ⟨rfl, by omega⟩)
theorem cmpS_vals (a b : ByteArray) : (cmpS a b = -1 ∧ Op.bytesLess a.toList b.toList = true ∧ (a.toList == b.toList) = false) ∨ (cmpS a b = 0 ∧ Op.bytesLess a.toList b.toList = false ∧ (a.toList == b.toList) = true) ∨ (cmpS a b = 1 ∧ Op.bytesLess a.toList b.toList = false ∧ (a.toList == b.toList) = false ∧ Op.bytesLess b.toList a.toList = true) := by
  unfold cmpS
  cases h : Op.bytesLess a.toList b.toList
  · rw [if_neg (by simp)]
    cases k : (a.toList == b.toList)
    · rw [if_neg (by simp)]
      refine .inr (.inr ⟨rfl, rfl, rfl, ?_⟩)
      rw [← Bool.not_eq_false]
      intro h2
      have := bl_total _ _ h h2
      rw [this] at k
      simp at k
    · exact .inr (.inl ⟨rfl, rfl, rfl⟩)
  · refine .inl ⟨rfl, rfl, ?_⟩
    rw [beq_eq_false_iff_ne]
    intro e
    rw [e, bl_self] at h
    cases h
theorem cmpI_swap (a b : Int) : cmpI b a = - cmpI a b := by
  rcases cmpI_vals a b with ⟨h, x⟩ | ⟨h, x⟩ | ⟨h, x⟩ <;> rcases cmpI_vals b a with ⟨k, y⟩ | ⟨k, y⟩ | ⟨k, y⟩ <;> omega
theorem cmpS_swap (a b : ByteArray) : cmpS b a = - cmpS a b := by
  rcases cmpS_vals a b with ⟨h, x, x2⟩ | ⟨h, x, x2⟩ | ⟨h, x, x2, x3⟩ <;> rcases cmpS_vals b a with ⟨k, y, y2⟩ | ⟨k, y, y2⟩ | ⟨k, y, y2, y3⟩
  · rw [bl_asymm _ _ x] at y; cases y
  · rw [beq_eq_false_iff_ne] at x2; exact absurd (beq_iff_eq.1 y2).symm x2
  · omega
  · rw [beq_eq_false_iff_ne] at y2; exact absurd (beq_iff_eq.1 x2).symm y2
  · omega
  · rw [beq_eq_false_iff_ne] at y2; exact absurd (beq_iff_eq.1 x2).symm y2
  · omega
  · rw [beq_eq_false_iff_ne] at x2; exact absurd (beq_iff_eq.1 y2).symm x2
  · rw [x3] at y; cases y
theorem cmpI_trans (a b c : Int) : 0 < cmpI a b ∨ 0 < cmpI b c ∨ cmpI a c ≤ 0 := by
  rcases cmpI_vals a b with ⟨h, x⟩ | ⟨h, x⟩ | ⟨h, x⟩ <;> rcases cmpI_vals b c with ⟨k, y⟩ | ⟨k, y⟩ | ⟨k, y⟩ <;> rcases cmpI_vals a c with ⟨m, z⟩ | ⟨m, z⟩ | ⟨m, z⟩ <;> omega
theorem cmpS_trans (a b c : ByteArray) : 0 < cmpS a b ∨ 0 < cmpS b c ∨ cmpS a c ≤ 0 := by
  rcases cmpS_vals a b with ⟨h, x, x2⟩ | ⟨h, x, x2⟩ | ⟨h, _⟩
  · rcases cmpS_vals b c with ⟨k, y, y2⟩ | ⟨k, y, y2⟩ | ⟨k, _⟩
    · have := bl_trans _ _ _ x y
      rcases cmpS_vals a c with ⟨m, z, _⟩ | ⟨m, z, _⟩ | ⟨m, z, _⟩
      · omega
      · omega
      · rw [this] at z; cases z
    · have e := beq_iff_eq.1 y2
      rcases cmpS_vals a c with ⟨m, z, _⟩ | ⟨m, z, _⟩ | ⟨m, z, _⟩
      · omega
      · omega
      · rw [← e, x] at z; cases z
    · omega
  · have e := beq_iff_eq.1 x2
    rcases cmpS_vals b c with ⟨k, y, y2⟩ | ⟨k, y, y2⟩ | ⟨k, _⟩
    · rcases cmpS_vals a c with ⟨m, z, _⟩ | ⟨m, z, _⟩ | ⟨m, z, _⟩
      · omega
      · omega
      · rw [e, y] at z; cases z
    · rcases cmpS_vals a c with ⟨m, z, _⟩ | ⟨m, z, _⟩ | ⟨m, z, z2, _⟩
      · omega
      · omega
      · rw [e, y2] at z2; cases z2
    · omega
  · omega
/-- Of which kinds there is an order, and which. -/
theorem ordV_some {a b : VV} (h : a.k = b.k) (h1 : 1 ≤ a.k) (h3 : a.k ≤ 3) : ordV a b = some (if a.k = 1 then cmpI a.i b.i else if a.k = 2 then cmpS a.s b.s else cmpI (rk a.b) (rk b.b)) := by
  unfold ordV
  rw [if_pos h]
  by_cases k1 : a.k = 1
  · rw [if_pos k1, if_pos k1]
  · rw [if_neg k1, if_neg k1]
    by_cases k2 : a.k = 2
    · rw [if_pos k2, if_pos k2]
    · rw [if_neg k2, if_neg k2, if_pos (by omega)]
theorem ordV_none {a b : VV} (h : a.k ≠ b.k ∨ a.k < 1 ∨ 3 < a.k) : ordV a b = none := by
  unfold ordV
  by_cases h0 : a.k = b.k
  · rw [if_pos h0, if_neg (by omega), if_neg (by omega), if_neg (by omega)]
  · rw [if_neg h0]
end Go.Proofs.YtlpkeinablekpaaDoor.Vd
