/- Heaps as lists: what is taken one by one; the least one by one of a plain list. -/
import Derived.Test.YtbjkeclfcccilaaHpB
namespace Go.Proofs.Ytbjkeclfcccilaa.Hp
set_option linter.unusedVariables false
/-- The first n that are taken. -/
def outs : Nat → List St → List St
  | 0, _ => []
  | n + 1, xs => gt xs 0 :: outs n (drop1 xs)
/-- What is left when n are taken. -/
def pops : Nat → List St → List St
  | 0, xs => xs
  | n + 1, xs => pops n (drop1 xs)
theorem outs_len : ∀ (n : Nat) (xs : List St), (outs n xs).length = n
  | 0, _ => rfl
  | n + 1, xs => by simp [outs, outs_len n]
theorem pops_len : ∀ (n : Nat) (xs : List St), (pops n xs).length = xs.length - n
  | 0, _ => rfl
  | n + 1, xs => by rw [pops, pops_len n, drop1_len]; omega
theorem pops_succ : ∀ (n : Nat) (xs : List St), pops (n + 1) xs = drop1 (pops n xs)
  | 0, _ => rfl
  | n + 1, xs => by rw [pops, pops_succ n, pops]
theorem outs_succ : ∀ (n : Nat) (xs : List St), outs (n + 1) xs = outs n xs ++ [gt (pops n xs) 0]
  | 0, _ => rfl
  | n + 1, xs => by rw [outs, outs_succ n]; rfl
theorem pops_ord : ∀ (n : Nat) {xs : List St}, Hord xs → Hord (pops n xs)
  | 0, _, h => h
  | n + 1, _, h => pops_ord n (drop1_ord h)
theorem outs_get (n : Nat) : ∀ (xs : List St) (i : Nat), i < n → gt (outs n xs) i = gt (pops i xs) 0 := by
  induction n with
  | zero => intro xs i h; omega
  | succ n ih =>
    intro xs i h
    match i with
    | 0 => rfl
    | i + 1 =>
      show gt (outs n (drop1 xs)) i = gt (pops i (drop1 xs)) 0
      exact ih _ _ (by omega)
/-- The place of the least of the first i; -1: of none. -/
def lk (m : List St) : Nat → Int
  | 0 => -1
  | i + 1 => if lk m i < 0 ∨ lt (gt m i) (gt m (lk m i).toNat) then (i : Int) else lk m i
theorem lk_spec (m : List St) : ∀ i, (i = 0 ∧ lk m i = -1) ∨ (0 < i ∧ ∃ k : Nat, k < i ∧ lk m i = (k : Int) ∧ ∀ j, j < i → le (gt m k) (gt m j))
  | 0 => .inl ⟨rfl, rfl⟩
  | i + 1 => by
    right
    refine ⟨by omega, ?_⟩
    unfold lk
    rcases lk_spec m i with ⟨rfl, h⟩ | ⟨h0, k, hk, he, hl⟩
    · exact ⟨0, by omega, by rw [if_pos (.inl (by omega))], fun j hj => by
        have e : j = 0 := by omega
        rw [e]
        exact le_refl _⟩
    · rw [he]
      have hn : ¬ (k : Int) < 0 := by omega
      by_cases hlt : lt (gt m i) (gt m k)
      · refine ⟨i, by omega, by rw [if_pos (.inr (by simpa using hlt))], fun j hj => ?_⟩
        by_cases e : j = i
        · subst e; exact le_refl _
        · exact le_trans (le_of_lt hlt) (hl j (by omega))
      · refine ⟨k, by omega, by rw [if_neg]; rintro (g | g); exact hn g; exact hlt (by simpa using g), fun j hj => ?_⟩
        by_cases e : j = i
        · subst e; exact hlt
        · exact hl j (by omega)
theorem lk_nat (m : List St) {i : Nat} (h : 0 < i) : ∃ k : Nat, k < i ∧ lk m i = (k : Int) ∧ ∀ j, j < i → le (gt m k) (gt m j) := by
  rcases lk_spec m i with ⟨e, _⟩ | ⟨_, h⟩
  · omega
  · exact h
/-- The place of the least. -/
def lstI (m : List St) : Nat := (lk m m.length).toNat
theorem lstI_spec {m : List St} (h : 0 < m.length) : lstI m < m.length ∧ lk m m.length = (lstI m : Int) ∧ ∀ j, j < m.length → le (gt m (lstI m)) (gt m j) := by
  obtain ⟨k, h1, h2, h3⟩ := lk_nat m h
  have e : lstI m = k := by unfold lstI; omega
  rw [e]
  exact ⟨h1, h2, h3⟩
/-- The least n, one by one. -/
def sel : Nat → List St → List St
  | 0, _ => []
  | n + 1, m => gt m (lstI m) :: sel n (m.eraseIdx (lstI m))
def rest : Nat → List St → List St
  | 0, m => m
  | n + 1, m => rest n (m.eraseIdx (lstI m))
theorem sel_len : ∀ (n : Nat) (m : List St), (sel n m).length = n
  | 0, _ => rfl
  | n + 1, m => by simp [sel, sel_len n]
theorem rest_len : ∀ (n : Nat) (m : List St), n ≤ m.length → (rest n m).length = m.length - n
  | 0, _, _ => rfl
  | n + 1, m, h => by
    have := (lstI_spec (m := m) (by omega)).1
    rw [rest, rest_len n _ (by rw [List.length_eraseIdx, if_pos this]; omega), List.length_eraseIdx, if_pos this]
    omega
theorem rest_succ : ∀ (n : Nat) (m : List St), rest (n + 1) m = (rest n m).eraseIdx (lstI (rest n m))
  | 0, _ => rfl
  | n + 1, m => by rw [rest, rest_succ n, rest]
theorem sel_succ : ∀ (n : Nat) (m : List St), sel (n + 1) m = sel n m ++ [gt (rest n m) (lstI (rest n m))]
  | 0, _ => rfl
  | n + 1, m => by rw [sel, sel_succ n]; rfl
theorem mem_gt {xs : List St} {x : St} (h : x ∈ xs) : ∃ i, i < xs.length ∧ gt xs i = x := by
  obtain ⟨i, hi, e⟩ := List.getElem_of_mem h
  exact ⟨i, hi, by rw [gt_get _ _ hi]; exact e⟩
theorem gt_mem {xs : List St} {i : Nat} (h : i < xs.length) : gt xs i ∈ xs := by rw [gt_get _ _ h]; exact List.getElem_mem h
theorem erase_perm (m : List St) (k : Nat) (h : k < m.length) : (m[k] :: m.eraseIdx k).Perm m := by
  have e : m = m.take k ++ m[k] :: m.drop (k + 1) := by rw [List.getElem_cons_drop, List.take_append_drop]
  rw [List.eraseIdx_eq_take_drop_succ]
  exact List.perm_middle.symm.trans (List.Perm.of_eq e.symm)
/-- The least of a heap is that of the plain list. -/
theorem root_sel {m xs : List St} (ho : Hord xs) (hp : xs.Perm m) (h : 0 < m.length) : gt xs 0 = gt m (lstI m) ∧ (drop1 xs).Perm (m.eraseIdx (lstI m)) := by
  obtain ⟨h1, _, h3⟩ := lstI_spec h
  have hl := hp.length_eq
  have e : gt xs 0 = gt m (lstI m) := by
    apply le_anti
    · obtain ⟨i, hi, e⟩ := mem_gt (hp.mem_iff.2 (gt_mem h1))
      rw [← e]
      exact root_least ho i hi
    · obtain ⟨i, hi, e⟩ := mem_gt (hp.mem_iff.1 (gt_mem (xs := xs) (i := 0) (by omega)))
      rw [← e]
      exact h3 i hi
  refine ⟨e, ?_⟩
  have g1 := drop1_perm (xs := xs) (by omega)
  have g2 : (gt m (lstI m) :: m.eraseIdx (lstI m)).Perm m := by rw [gt_get _ _ h1]; exact erase_perm m _ h1
  rw [e] at g1
  exact (g1.trans (hp.trans g2.symm)).cons_inv
theorem sel_outs : ∀ (n : Nat) {m xs : List St}, Hord xs → xs.Perm m → n ≤ m.length → sel n m = outs n xs ∧ (pops n xs).Perm (rest n m)
  | 0, _, _, _, hp, _ => ⟨rfl, hp⟩
  | n + 1, m, xs, ho, hp, hn => by
    obtain ⟨e1, e2⟩ := root_sel ho hp (by omega)
    have := (lstI_spec (m := m) (by omega)).1
    obtain ⟨g1, g2⟩ := sel_outs n (drop1_ord ho) e2 (by rw [List.length_eraseIdx, if_pos this]; omega)
    exact ⟨by rw [sel, outs, e1, g1], g2⟩
end Go.Proofs.Ytbjkeclfcccilaa.Hp
