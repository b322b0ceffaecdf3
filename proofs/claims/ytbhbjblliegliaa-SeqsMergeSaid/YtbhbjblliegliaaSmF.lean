/- What three lists as one are: plain mathematics. -/
import Derived.Test.YtbhbjblliegliaaSmE
namespace Go.Proofs.Ytbhbjblliegliaa.Sm
open Go.RowKit Go.Proofs.Ytbhbjblliegliaa Go.Proofs.Ytbhbjblliegliaa.Hp
set_option linter.unusedVariables false
theorem mg_mem (n : Nat) : ∀ xs ys : List St, xs.length + ys.length = n → ∀ u, u ∈ mg xs ys → u ∈ xs ∨ u ∈ ys := by
  induction n using Nat.strongRecOn with
  | ind n ih =>
    intro xs ys h u hu
    cases xs with
    | nil => simp [mg] at hu; exact .inr hu
    | cons x r =>
      cases ys with
      | nil => simp [mg] at hu; exact .inl (by simpa using hu)
      | cons y s =>
        unfold mg at hu
        simp only [List.length_cons] at h
        split at hu
        · rcases List.mem_cons.1 hu with e | e
          · exact .inr (by simp [e])
          · rcases ih (n - 1) (by omega) (x :: r) s (by simp; omega) u e with e | e
            · exact .inl e
            · exact .inr (by simp [e])
        · rcases List.mem_cons.1 hu with e | e
          · exact .inl (by simp [e])
          · rcases ih (n - 1) (by omega) r (y :: s) (by simp; omega) u e with e | e
            · exact .inl (by simp [e])
            · exact .inr e
theorem mg_pw (n : Nat) : ∀ xs ys : List St, xs.length + ys.length = n → xs.Pairwise le → ys.Pairwise le → (mg xs ys).Pairwise le := by
  induction n using Nat.strongRecOn with
  | ind n ih =>
    intro xs ys h hx hy
    cases xs with
    | nil => simpa [mg] using hy
    | cons x r =>
      cases ys with
      | nil => simpa [mg] using hx
      | cons y s =>
        have hx' := List.pairwise_cons.1 hx
        have hy' := List.pairwise_cons.1 hy
        unfold mg
        simp only [List.length_cons] at h
        split
        · rename_i hlt
          refine List.pairwise_cons.2 ⟨fun u hu => ?_, ih (n - 1) (by omega) (x :: r) s (by simp; omega) hx hy'.2⟩
          rcases mg_mem _ _ _ rfl u hu with e | e
          · rcases List.mem_cons.1 e with e | e
            · subst e; exact le_of_lt hlt
            · exact le_trans (le_of_lt hlt) (hx'.1 u e)
          · exact hy'.1 u e
        · rename_i hlt
          have hxy : le x y := hlt
          refine List.pairwise_cons.2 ⟨fun u hu => ?_, ih (n - 1) (by omega) r (y :: s) (by simp; omega) hx'.2 hy⟩
          rcases mg_mem _ _ _ rfl u hu with e | e
          · exact hx'.1 u e
          · rcases List.mem_cons.1 e with e | e
            · subst e; exact hxy
            · exact le_trans hxy (hy'.1 u e)
theorem mg_fl (p : St → Bool) (n : Nat) : ∀ xs ys : List St, xs.length + ys.length = n → (∀ u ∈ xs, p u = true) → (∀ u ∈ ys, p u = false) → (mg xs ys).filter p = xs := by
  induction n using Nat.strongRecOn with
  | ind n ih =>
    intro xs ys h hx hy
    cases xs with
    | nil => simpa [mg] using hy
    | cons x r =>
      cases ys with
      | nil => rw [mg_nil]; exact List.filter_eq_self.2 hx
      | cons y s =>
        unfold mg
        simp only [List.length_cons] at h
        split
        · rw [List.filter_cons_of_neg (by rw [hy y (by simp)]; decide)]
          exact ih (n - 1) (by omega) (x :: r) s (by simp; omega) hx (fun u hu => hy u (by simp [hu]))
        · rw [List.filter_cons_of_pos (hx x (by simp)), ih (n - 1) (by omega) r (y :: s) (by simp; omega) (fun u hu => hx u (by simp [hu])) hy]
theorem mg_fr (p : St → Bool) (n : Nat) : ∀ xs ys : List St, xs.length + ys.length = n → (∀ u ∈ xs, p u = false) → (mg xs ys).filter p = ys.filter p := by
  induction n using Nat.strongRecOn with
  | ind n ih =>
    intro xs ys h hx
    cases xs with
    | nil => simp [mg]
    | cons x r =>
      cases ys with
      | nil => rw [mg_nil]; simpa using hx
      | cons y s =>
        unfold mg
        simp only [List.length_cons] at h
        split
        · have e := ih (n - 1) (by omega) (x :: r) s (by simp; omega) hx
          simp only [List.filter_cons]
          rw [e]
        · rw [List.filter_cons_of_neg (by rw [hx x (by simp)]; decide)]
          exact ih (n - 1) (by omega) r (y :: s) (by simp; omega) (fun u hu => hx u (by simp [hu]))
theorem up_pw {L : List St} (h : L.Pairwise le) : Up L := fun i x y hx hy => by
  obtain ⟨h1, e1⟩ := List.getElem?_eq_some_iff.1 hx
  obtain ⟨h2, e2⟩ := List.getElem?_eq_some_iff.1 hy
  have := (List.pairwise_iff_getElem.1 h) i (i + 1) h2 h1 (by omega)
  rw [e1, e2] at this
  exact this
theorem filter_at (M : List St) (p : St → Bool) (i : Nat) (x : St) (h : M[i]? = some x) (hp : p x = true) : (M.filter p)[((M.take i).filter p).length]? = some x := by
  obtain ⟨hi, e⟩ := List.getElem?_eq_some_iff.1 h
  have hM : M = M.take i ++ x :: M.drop (i + 1) := by
    rw [← e]; simp
  have e1 : M.filter p = (M.take i).filter p ++ x :: (M.drop (i + 1)).filter p := by
    have := congrArg (List.filter p) hM
    rw [List.filter_append, List.filter_cons_of_pos hp] at this
    exact this
  rw [e1, List.getElem?_append_right (Nat.le_refl _), Nat.sub_self]
  rfl
/-- How many of place k there are among the first i. -/
def cnt (M : List St) (k : Int) (i : Nat) : Nat := ((M.take i).filter (fun u => u.a == k)).length
theorem cnt_succ (M : List St) (k : Int) (i : Nat) (x : St) (h : M[i]? = some x) : cnt M k (i + 1) = cnt M k i + (if x.a = k then 1 else 0) := by
  obtain ⟨hi, e⟩ := List.getElem?_eq_some_iff.1 h
  unfold cnt
  rw [List.take_succ_eq_append_getElem hi, e, List.filter_append, List.length_append]
  by_cases hk : x.a = k
  · simp [hk]
  · simp [hk]
theorem tm_up (f : Nat → Int) (i j : Nat) (h : i ≤ j) : tm f i ≤ tm f j := by
  induction j with
  | zero => obtain rfl : i = 0 := by omega
            exact Int.le_refl _
  | succ j ih =>
    by_cases e : i = j + 1
    · subst e; exact Int.le_refl _
    · have := ih (by omega)
      have h2 : tm f (j + 1) = tm f j + f j % 4 := rfl
      omega
theorem rl_pw (f : Nat → Int) (a : Int) (n : Nat) : (rl f a n n).Pairwise le := by
  rw [List.pairwise_iff_getElem]
  intro i j hi hj hij
  simp [rl] at hi hj ⊢
  have := tm_up f (i + 1) (j + 1) (by omega)
  unfold le lt
  simp [hi, hj]
  omega
theorem rl_mem (f : Nat → Int) (a : Int) (n : Nat) : ∀ u ∈ rl f a n n, u.a = a ∧ u.q = 0 := fun u hu => by
  obtain ⟨i, hi, rfl⟩ := List.mem_map.1 hu
  simp at hi
  simp [hi]
/-- The three as one. -/
structure Thr (x y z M : List St) : Prop where
  ln : M.length = x.length + y.length + z.length
  up : Up M
  ka : ∀ (i : Nat) (u : St), M[i]? = some u → u.q = 0 ∧ ((u.a = 0 ∧ x[cnt M 0 i]? = some u) ∨ (u.a = 1 ∧ y[cnt M 1 i]? = some u) ∨ (u.a = 2 ∧ z[cnt M 2 i]? = some u))
theorem thr_mg (f g h : Nat → Int) (nx ny nz : Nat) : Thr (rl f 0 nx nx) (rl g 1 ny ny) (rl h 2 nz nz) (mg (rl f 0 nx nx) (mg (rl g 1 ny ny) (rl h 2 nz nz))) := by
  obtain ⟨x, hx⟩ : ∃ x, rl f 0 nx nx = x := ⟨_, rfl⟩
  obtain ⟨y, hy⟩ : ∃ x, rl g 1 ny ny = x := ⟨_, rfl⟩
  obtain ⟨z, hz⟩ : ∃ x, rl h 2 nz nz = x := ⟨_, rfl⟩
  have mx := rl_mem f 0 nx
  have my := rl_mem g 1 ny
  have mz := rl_mem h 2 nz
  have px := rl_pw f 0 nx
  have py := rl_pw g 1 ny
  have pz := rl_pw h 2 nz
  rw [hx] at mx px ⊢
  rw [hy] at my py ⊢
  rw [hz] at mz pz ⊢
  have hyz : ∀ u ∈ mg y z, (u.a = 1 ∨ u.a = 2) ∧ u.q = 0 := fun u hu => by
    rcases mg_mem _ _ _ rfl u hu with e | e
    · exact ⟨.inl (my u e).1, (my u e).2⟩
    · exact ⟨.inr (mz u e).1, (mz u e).2⟩
  have f0 : (mg x (mg y z)).filter (fun u => u.a == 0) = x := mg_fl _ _ _ _ rfl (fun u hu => by simp [(mx u hu).1]) (fun u hu => by rcases (hyz u hu).1 with e | e <;> simp [e])
  have f1 : (mg x (mg y z)).filter (fun u => u.a == 1) = y := by
    rw [mg_fr _ _ _ _ rfl (fun u hu => by simp [(mx u hu).1])]
    exact mg_fl _ _ _ _ rfl (fun u hu => by simp [(my u hu).1]) (fun u hu => by simp [(mz u hu).1])
  have f2 : (mg x (mg y z)).filter (fun u => u.a == 2) = z := by
    rw [mg_fr _ _ _ _ rfl (fun u hu => by simp [(mx u hu).1]), mg_fr _ _ _ _ rfl (fun u hu => by simp [(my u hu).1])]
    exact List.filter_eq_self.2 (fun u hu => by simp [(mz u hu).1])
  refine ⟨by rw [mg_len _ _ _ rfl, mg_len _ _ _ rfl]; omega, up_pw (mg_pw _ _ _ rfl px (mg_pw _ _ _ rfl py pz)), fun i u hu => ?_⟩
  have hm : u ∈ mg x (mg y z) := List.mem_of_getElem? hu
  rcases mg_mem _ _ _ rfl u hm with e | e
  · have h1 := filter_at _ (fun u => u.a == 0) i u hu (by simp [(mx u e).1])
    rw [f0] at h1
    exact ⟨(mx u e).2, .inl ⟨(mx u e).1, h1⟩⟩
  · rcases mg_mem _ _ _ rfl u e with e | e
    · have h1 := filter_at _ (fun u => u.a == 1) i u hu (by simp [(my u e).1])
      rw [f1] at h1
      exact ⟨(my u e).2, .inr (.inl ⟨(my u e).1, h1⟩)⟩
    · have h1 := filter_at _ (fun u => u.a == 2) i u hu (by simp [(mz u e).1])
      rw [f2] at h1
      exact ⟨(mz u e).2, .inr (.inr ⟨(mz u e).1, h1⟩)⟩
end Go.Proofs.Ytbhbjblliegliaa.Sm
