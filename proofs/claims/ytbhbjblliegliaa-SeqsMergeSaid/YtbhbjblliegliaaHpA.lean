/- Heaps as lists: plain mathematics. -/
import Derived.Test.YtbhbjblliegliaaRows
namespace Go.Proofs.Ytbhbjblliegliaa.Hp
set_option linter.unusedVariables false
structure St where
  t : Int
  q : Int
  a : Int
deriving DecidableEq
def lt (x y : St) : Prop := x.t < y.t ∨ (x.t = y.t ∧ (x.q < y.q ∨ (x.q = y.q ∧ x.a < y.a)))
instance (x y : St) : Decidable (lt x y) := by unfold lt; exact inferInstance
def le (x y : St) : Prop := ¬ lt y x
theorem le_refl (x : St) : le x x := by unfold le lt; omega
theorem le_trans {x y z : St} (h : le x y) (g : le y z) : le x z := by unfold le lt at *; omega
theorem le_of_lt {x y : St} (h : lt x y) : le x y := by unfold le lt at *; omega
theorem le_anti {x y : St} (h : le x y) (g : le y x) : x = y := by
  cases x
  cases y
  unfold le lt at *
  simp at *
  omega
def z : St := ⟨0, 0, 0⟩
def gt (xs : List St) (i : Nat) : St := xs.getD i z
def sw (xs : List St) (i j : Nat) : List St := (xs.set i (gt xs j)).set j (gt xs i)
theorem sw_len (xs : List St) (i j : Nat) : (sw xs i j).length = xs.length := by simp [sw]
theorem gt_set (xs : List St) (i k : Nat) (v : St) (hi : i < xs.length) : gt (xs.set i v) k = if k = i then v else gt xs k := by
  unfold gt
  rw [List.getD_eq_getElem?_getD, List.getD_eq_getElem?_getD, List.getElem?_set]
  by_cases h : i = k
  · subst h
    simp [hi]
  · rw [if_neg h, if_neg (fun e => h e.symm)]
theorem gt_sw (xs : List St) (i j k : Nat) (hi : i < xs.length) (hj : j < xs.length) : gt (sw xs i j) k = if k = j then gt xs i else if k = i then gt xs j else gt xs k := by
  unfold sw
  rw [gt_set _ _ _ _ (by simpa using hj), gt_set _ _ _ _ hi]
theorem gt_get (xs : List St) (i : Nat) (h : i < xs.length) : gt xs i = xs[i] := by simp [gt, List.getD_eq_getElem?_getD, h]
theorem sw_perm (xs : List St) (i j : Nat) (hi : i < xs.length) (hj : j < xs.length) : (sw xs i j).Perm xs := by
  obtain ⟨a, ha⟩ : ∃ a, xs[i] = a := ⟨_, rfl⟩
  obtain ⟨b, hb⟩ : ∃ b, xs[j] = b := ⟨_, rfl⟩
  have e0 : sw xs i j = (xs.set i b).set j a := by unfold sw; rw [gt_get xs i hi, gt_get xs j hj, ha, hb]
  rw [e0, List.perm_iff_count]
  intro x
  have hj' : j < (xs.set i b).length := by simpa using hj
  have h1 : (xs.set i b)[j] = b := by
    rw [List.getElem_set]
    split
    · rfl
    · exact hb
  rw [List.count_set hj', List.count_set hi, h1, ha]
  have hci : a = x → 0 < xs.count x := fun e => List.count_pos_iff.2 (by rw [← e, ← ha]; exact List.getElem_mem hi)
  by_cases g : a = x
  · have := hci g
    by_cases g2 : b = x
    · simp [g, g2]; omega
    · simp [g, g2]; omega
  · by_cases g2 : b = x
    · simp [g, g2]
    · simp [g, g2]
/-- The thing at each place is not ahead of that at half the place before. -/
def Hord (xs : List St) : Prop := ∀ i, 0 < i → i < xs.length → le (gt xs ((i - 1) / 2)) (gt xs i)
theorem root_least {xs : List St} (h : Hord xs) : ∀ i, i < xs.length → le (gt xs 0) (gt xs i) := by
  intro i
  induction i using Nat.strongRecOn with
  | ind i ih =>
    intro hi
    by_cases h0 : i = 0
    · subst h0; exact le_refl _
    · exact le_trans (ih ((i - 1) / 2) (by omega) (by omega)) (h i (by omega) hi)
/-- A thing brought ahead as far as it goes. -/
def rise (xs : List St) (i : Nat) : List St :=
  if h : 0 < i then (if lt (gt xs i) (gt xs ((i - 1) / 2)) then rise (sw xs i ((i - 1) / 2)) ((i - 1) / 2) else xs) else xs
termination_by i
decreasing_by omega
theorem rise_len (xs : List St) (i : Nat) : (rise xs i).length = xs.length := by
  induction i using Nat.strongRecOn generalizing xs with
  | ind i ih =>
    unfold rise
    split
    · split
      · rw [ih ((i - 1) / 2) (by omega), sw_len]
      · rfl
    · rfl
theorem rise_perm (xs : List St) (i : Nat) (hi : i < xs.length) : (rise xs i).Perm xs := by
  induction i using Nat.strongRecOn generalizing xs with
  | ind i ih =>
    unfold rise
    split
    · split
      · exact (ih ((i - 1) / 2) (by omega) _ (by rw [sw_len]; omega)).trans (sw_perm xs i _ hi (by omega))
      · exact List.Perm.refl _
    · exact List.Perm.refl _
/-- In order but for what stands at i, that may be ahead of what is above it. -/
def Up (xs : List St) (i : Nat) : Prop := (∀ k, 0 < k → k < xs.length → k ≠ i → le (gt xs ((k - 1) / 2)) (gt xs k)) ∧ (0 < i → ∀ k, 0 < k → k < xs.length → (k - 1) / 2 = i → le (gt xs ((i - 1) / 2)) (gt xs k))
theorem rise_ord (xs : List St) (i : Nat) (hi : i < xs.length) (h : Up xs i) : Hord (rise xs i) := by
  induction i using Nat.strongRecOn generalizing xs with
  | ind i ih =>
    unfold rise
    split
    · rename_i hp
      split
      · rename_i hlt
        have hj : (i - 1) / 2 < xs.length := by omega
        refine ih ((i - 1) / 2) (by omega) _ (by rw [sw_len]; omega) ⟨fun k hk hkl hne => ?_, fun h0 k hk hkl hkp => ?_⟩
        · rw [sw_len] at hkl
          rw [gt_sw xs i _ _ hi hj, gt_sw xs i _ _ hi hj]
          by_cases hki : k = i
          · subst hki
            rw [if_pos rfl, if_neg hne, if_pos rfl]
            exact le_of_lt hlt
          · rw [if_neg hne, if_neg hki]
            by_cases e1 : (k - 1) / 2 = (i - 1) / 2
            · rw [if_pos e1]
              have := h.1 k hk hkl hki
              rw [e1] at this
              exact le_trans (le_of_lt hlt) this
            · rw [if_neg e1]
              by_cases e2 : (k - 1) / 2 = i
              · rw [if_pos e2]
                exact h.2 hp k hk hkl e2
              · rw [if_neg e2]
                exact h.1 k hk hkl hki
        · rw [sw_len] at hkl
          rw [gt_sw xs i _ _ hi hj, gt_sw xs i _ _ hi hj, if_neg (by omega), if_neg (by omega)]
          have hpp := h.1 ((i - 1) / 2) h0 (by omega) (by omega)
          by_cases hki : k = i
          · subst hki
            rw [if_neg (by omega), if_pos rfl]
            exact hpp
          · rw [if_neg (by omega), if_neg hki]
            have := h.1 k hk hkl hki
            rw [hkp] at this
            exact le_trans hpp this
      · rename_i hnl
        intro k hk hkl
        by_cases hki : k = i
        · subst hki; exact hnl
        · exact h.1 k hk hkl hki
    · intro k hk hkl
      exact h.1 k hk hkl (by omega)
theorem push_up {xs : List St} (h : Hord xs) (x : St) : Up (xs ++ [x]) xs.length := by
  have hg : ∀ k, k < xs.length → gt (xs ++ [x]) k = gt xs k := fun k hk => by
    rw [gt_get _ _ (by simp; omega), gt_get _ _ hk, List.getElem_append_left hk]
  refine ⟨fun k hk hkl hne => ?_, fun h0 k hk hkl hkp => ?_⟩
  · have hkx : k < xs.length := by simp at hkl; omega
    rw [hg k hkx, hg _ (by omega)]
    exact h k hk hkx
  · simp at hkl
    omega
theorem push_ord {xs : List St} (h : Hord xs) (x : St) : Hord (rise (xs ++ [x]) xs.length) := rise_ord _ _ (by simp) (push_up h x)
end Go.Proofs.Ytbhbjblliegliaa.Hp
