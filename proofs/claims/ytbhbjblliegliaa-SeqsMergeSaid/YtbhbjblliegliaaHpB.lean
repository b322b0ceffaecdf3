/- Heaps as lists: the least taken away. -/
import Derived.Test.YtbhbjblliegliaaHpA
namespace Go.Proofs.Ytbhbjblliegliaa.Hp
set_option linter.unusedVariables false
/-- The lesser of the two things below a place. -/
def low (xs : List St) (i : Nat) : Nat := if 2 * i + 2 < xs.length ∧ lt (gt xs (2 * i + 2)) (gt xs (2 * i + 1)) then 2 * i + 2 else 2 * i + 1
theorem low_cases (xs : List St) (i : Nat) : (low xs i = 2 * i + 2 ∧ 2 * i + 2 < xs.length ∧ lt (gt xs (2 * i + 2)) (gt xs (2 * i + 1))) ∨ (low xs i = 2 * i + 1 ∧ ¬ (2 * i + 2 < xs.length ∧ lt (gt xs (2 * i + 2)) (gt xs (2 * i + 1)))) := by
  unfold low
  split
  · rename_i h; exact .inl ⟨rfl, h.1, h.2⟩
  · rename_i h; exact .inr ⟨rfl, h⟩
theorem low_lt {xs : List St} {i : Nat} (h : 2 * i + 1 < xs.length) : i < low xs i ∧ low xs i < xs.length ∧ (low xs i - 1) / 2 = i := by
  rcases low_cases xs i with ⟨e, h1, _⟩ | ⟨e, _⟩
  · omega
  · omega
theorem low_le {xs : List St} {i k : Nat} (hk : 0 < k) (hkl : k < xs.length) (hp : (k - 1) / 2 = i) : le (gt xs (low xs i)) (gt xs k) := by
  have hk2 : k = 2 * i + 1 ∨ k = 2 * i + 2 := by omega
  rcases low_cases xs i with ⟨e, h1, h2⟩ | ⟨e, h1⟩
  · rw [e]
    rcases hk2 with rfl | rfl
    · exact le_of_lt h2
    · exact le_refl _
  · rw [e]
    rcases hk2 with rfl | rfl
    · exact le_refl _
    · exact fun g => h1 ⟨hkl, g⟩
/-- A thing brought back as far as it goes. -/
def sink (xs : List St) (i : Nat) : List St :=
  if h : 2 * i + 1 < xs.length then (if lt (gt xs (low xs i)) (gt xs i) then sink (sw xs i (low xs i)) (low xs i) else xs) else xs
termination_by xs.length - i
decreasing_by
  have := low_lt h
  rw [sw_len]
  omega
theorem sink_spec (m : Nat) : ∀ (xs : List St) (i : Nat), xs.length - i = m → (sink xs i).length = xs.length ∧ (sink xs i).Perm xs := by
  induction m using Nat.strongRecOn with
  | ind m ih =>
    intro xs i hm
    unfold sink
    split
    · rename_i h
      have hl := low_lt h
      split
      · obtain ⟨h1, h2⟩ := ih (xs.length - low xs i) (by omega) (sw xs i (low xs i)) (low xs i) (by rw [sw_len])
        exact ⟨by rw [h1, sw_len], h2.trans (sw_perm xs i _ (by omega) hl.2.1)⟩
      · exact ⟨rfl, List.Perm.refl _⟩
    · exact ⟨rfl, List.Perm.refl _⟩
theorem sink_len (xs : List St) (i : Nat) : (sink xs i).length = xs.length := (sink_spec _ xs i rfl).1
theorem sink_perm (xs : List St) (i : Nat) : (sink xs i).Perm xs := (sink_spec _ xs i rfl).2
/-- In order but for what stands at i, that may be behind what is below it. -/
def Down (xs : List St) (i : Nat) : Prop := (∀ k, 0 < k → k < xs.length → (k - 1) / 2 ≠ i → le (gt xs ((k - 1) / 2)) (gt xs k)) ∧ (0 < i → ∀ k, 0 < k → k < xs.length → (k - 1) / 2 = i → le (gt xs ((i - 1) / 2)) (gt xs k))
theorem sink_ord (m : Nat) : ∀ (xs : List St) (i : Nat), xs.length - i = m → i < xs.length → Down xs i → Hord (sink xs i) := by
  induction m using Nat.strongRecOn with
  | ind m ih =>
    intro xs i hm hi h
    unfold sink
    split
    · rename_i hl
      obtain ⟨hl1, hl2, hl3⟩ := low_lt hl
      obtain ⟨j, hj⟩ : ∃ j, low xs i = j := ⟨_, rfl⟩
      have hlow : ∀ k, 0 < k → k < xs.length → (k - 1) / 2 = i → le (gt xs j) (gt xs k) := fun k h1 h2 h3 => by rw [← hj]; exact low_le h1 h2 h3
      rw [hj] at hl1 hl2 hl3 ⊢
      split
      · rename_i hlt
        refine ih (xs.length - j) (by omega) _ j (by rw [sw_len]) (by rw [sw_len]; exact hl2) ⟨fun k hk hkl hne => ?_, fun h0 k hk hkl hkp => ?_⟩
        · rw [sw_len] at hkl
          rw [gt_sw xs i j _ hi hl2, gt_sw xs i j _ hi hl2, if_neg hne]
          by_cases hkj : k = j
          · subst hkj
            rw [if_pos hl3, if_pos rfl]
            exact le_of_lt hlt
          · rw [if_neg hkj]
            by_cases e1 : (k - 1) / 2 = i
            · rw [if_pos e1, if_neg (by omega)]
              exact hlow k hk hkl e1
            · rw [if_neg e1]
              by_cases hki : k = i
              · subst hki
                rw [if_pos rfl]
                exact h.2 hk j (by omega) hl2 hl3
              · rw [if_neg hki]
                exact h.1 k hk hkl e1
        · rw [sw_len] at hkl
          rw [gt_sw xs i j _ hi hl2, gt_sw xs i j _ hi hl2, hl3, if_neg (by omega), if_pos rfl, if_neg (by omega), if_neg (by omega)]
          have := h.1 k hk hkl (by omega)
          rw [hkp] at this
          exact this
      · rename_i hnl
        intro k hk hkl
        by_cases e1 : (k - 1) / 2 = i
        · rw [e1]
          exact le_trans hnl (hlow k hk hkl e1)
        · exact h.1 k hk hkl e1
    · rename_i hnl
      intro k hk hkl
      exact h.1 k hk hkl (by omega)
/-- What is left when the first one goes, ahead of bringing the last one back. -/
def cutTop (xs : List St) : List St := (xs.set 0 (gt xs (xs.length - 1))).take (xs.length - 1)
def drop1 (xs : List St) : List St := sink (cutTop xs) 0
theorem cutTop_len (xs : List St) : (cutTop xs).length = xs.length - 1 := by simp [cutTop]
theorem drop1_len (xs : List St) : (drop1 xs).length = xs.length - 1 := by unfold drop1; rw [sink_len, cutTop_len]
theorem cutTop_perm {xs : List St} (h : 0 < xs.length) : (gt xs 0 :: cutTop xs).Perm xs := by
  match xs, h with
  | x :: r, _ =>
    have e0 : gt (x :: r) 0 = x := rfl
    rw [e0]
    refine List.Perm.cons x ?_
    unfold cutTop
    match r with
    | [] => exact List.Perm.refl _
    | y :: s =>
      have hl : gt (x :: y :: s) ((x :: y :: s).length - 1) = (y :: s).getLast (by simp) := by
        rw [gt_get _ _ (by simp), List.getLast_eq_getElem]
        simp
      rw [hl]
      have e1 : ((x :: y :: s).set 0 ((y :: s).getLast (by simp))).take ((x :: y :: s).length - 1) = (y :: s).getLast (by simp) :: (y :: s).dropLast := by
        rw [List.set_cons_zero, List.dropLast_eq_take]
        simp
      rw [e1]
      have e2 : (y :: s).dropLast ++ [(y :: s).getLast (by simp)] = y :: s := List.dropLast_concat_getLast _
      calc (y :: s).getLast (by simp) :: (y :: s).dropLast
          |>.Perm ((y :: s).dropLast ++ [(y :: s).getLast (by simp)]) := (List.perm_append_singleton _ _).symm
        _ = y :: s := e2
theorem drop1_perm {xs : List St} (h : 0 < xs.length) : (gt xs 0 :: drop1 xs).Perm xs := (List.Perm.cons _ (sink_perm _ _)).trans (cutTop_perm h)
theorem drop1_ord {xs : List St} (h : Hord xs) : Hord (drop1 xs) := by
  unfold drop1
  by_cases h0 : 0 < (cutTop xs).length
  · refine sink_ord _ _ 0 rfl h0 ⟨fun k hk hkl hne => ?_, fun g => absurd g (by omega)⟩
    rw [cutTop_len] at hkl
    have hg : ∀ j, 0 < j → j < xs.length - 1 → gt (cutTop xs) j = gt xs j := fun j hj hjl => by
      rw [gt_get _ _ (by rw [cutTop_len]; exact hjl), gt_get _ _ (by omega)]
      unfold cutTop
      rw [List.getElem_take, List.getElem_set_ne (by omega)]
    rw [hg k hk hkl, hg _ (by omega) (by omega)]
    exact h k hk (by omega)
  · intro k hk hkl
    rw [sink_len] at hkl
    omega
end Go.Proofs.Ytbhbjblliegliaa.Hp
