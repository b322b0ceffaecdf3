/- Sorted spans: strictly, and none told ahead of an earlier one's beginning; what Respects tells of any list. -/
import Derived.Test.YtaimbkikiokenaaHoM
namespace Go.Proofs.Ytaimbkikiokenaa.Hi
open Go.RowKit Go.Proofs.Ytaimbkikiokenaa Go.Maps
set_option linter.unusedVariables false
def NoAh (L : List Sp) : Prop := ∀ (a b : Nat) (x y : Sp), L[a]? = some x → L[b]? = some y → b < a → ahd x y = false
theorem ahd_mono {x y z : Sp} (h : y.call ≤ z.call) (hz : ahd x z = false) : ahd x y = false := by
  unfold ahd at *
  by_cases h1 : 0 ≤ x.reply
  · by_cases h2 : x.reply < z.call
    · simp [h1, h2] at hz
    · have h3 : ¬ x.reply < y.call := by omega
      simp [h3]
  · simp [h1]
theorem respF_iff : ∀ (r : List Sp) (z : Sp), respF z r = true ↔ (∀ (a : Nat) (x : Sp), r[a]? = some x → ahd x z = false) ∧ NoAh r
  | [], z => ⟨fun _ => ⟨fun a x h => by simp at h, fun a b x y h => by simp at h⟩, fun _ => rfl⟩
  | x0 :: r, z => by
    unfold respF
    by_cases h0 : ahd x0 z = true
    · rw [if_pos h0]
      refine ⟨fun h => (by cases h), fun ⟨h, _⟩ => ?_⟩
      rw [h 0 x0 rfl] at h0
      cases h0
    · rw [if_neg h0, respF_iff r]
      have h0' : ahd x0 z = false := by simpa using h0
      obtain ⟨z', hz'⟩ : ∃ z', (if z.call < x0.call then x0 else z) = z' := ⟨_, rfl⟩
      rw [hz']
      have hm : ∀ x, ahd x z' = false ↔ ahd x z = false ∧ ahd x x0 = false := fun x => by
        by_cases hc : z.call < x0.call
        · rw [if_pos hc] at hz'
          subst hz'
          exact ⟨fun h => ⟨ahd_mono (by omega) h, h⟩, fun h => h.2⟩
        · rw [if_neg hc] at hz'
          subst hz'
          exact ⟨fun h => ⟨h, ahd_mono (by omega) h⟩, fun h => h.1⟩
      constructor
      · rintro ⟨h1, h2⟩
        refine ⟨fun a x hx => ?_, fun a b x y hx hy hab => ?_⟩
        · cases a with
          | zero => simp at hx; subst hx; exact h0'
          | succ a => exact ((hm x).1 (h1 a x (by simpa using hx))).1
        · cases a with
          | zero => omega
          | succ a =>
            cases b with
            | zero => simp at hy; subst hy; exact ((hm x).1 (h1 a x (by simpa using hx))).2
            | succ b => exact h2 a b x y (by simpa using hx) (by simpa using hy) (by omega)
      · rintro ⟨h1, h2⟩
        refine ⟨fun a x hx => (hm x).2 ⟨h1 (a + 1) x (by simpa using hx), h2 (a + 1) 0 x x0 (by simpa using hx) rfl (by omega)⟩, fun a b x y hx hy hab => h2 (a + 1) (b + 1) x y (by simpa using hx) (by simpa using hy) (by omega)⟩
theorem respB_iff (L : List Sp) : respB L = true ↔ NoAh L := by
  cases L with
  | nil => exact ⟨fun _ a b x y h => by simp at h, fun _ => rfl⟩
  | cons z r =>
    show respF z r = true ↔ _
    rw [respF_iff]
    constructor
    · rintro ⟨h1, h2⟩ a b x y hx hy hab
      cases a with
      | zero => omega
      | succ a =>
        cases b with
        | zero => simp at hy; subst hy; exact h1 a x (by simpa using hx)
        | succ b => exact h2 a b x y (by simpa using hx) (by simpa using hy) (by omega)
    · intro h
      exact ⟨fun a x hx => h (a + 1) 0 x z (by simpa using hx) rfl (by omega), fun a b x y hx hy hab => h (a + 1) (b + 1) x y (by simpa using hx) (by simpa using hy) (by omega)⟩
/-- The law's own reckoning of it. -/
def wI (L : List Sp) (x : Sp) : Nat → Bool
  | 0 => true
  | b + 1 => wI L x b && !(match L[b]? with | some y => ahd x y | none => false)
def wO (L : List Sp) : Nat → Bool
  | 0 => true
  | a + 1 => wO L a && (match L[a]? with | some x => wI L x a | none => true)
theorem wI_iff (L : List Sp) (x : Sp) : ∀ b, wI L x b = true ↔ ∀ (i : Nat) (y : Sp), i < b → L[i]? = some y → ahd x y = false
  | 0 => ⟨fun _ i y h => by omega, fun _ => rfl⟩
  | b + 1 => by
    unfold wI
    rw [Bool.and_eq_true, wI_iff L x b]
    constructor
    · rintro ⟨h1, h2⟩ i y hi hy
      by_cases e : i = b
      · subst e
        rw [hy] at h2
        simpa using h2
      · exact h1 i y (by omega) hy
    · intro h
      refine ⟨fun i y hi hy => h i y (by omega) hy, ?_⟩
      cases hb : L[b]? with
      | none => rfl
      | some y => simp [h b y (by omega) hb]
theorem wO_iff (L : List Sp) : ∀ a, wO L a = true ↔ ∀ (i j : Nat) (x y : Sp), i < a → L[i]? = some x → L[j]? = some y → j < i → ahd x y = false
  | 0 => ⟨fun _ i j x y h => by omega, fun _ => rfl⟩
  | a + 1 => by
    unfold wO
    rw [Bool.and_eq_true, wO_iff L a]
    constructor
    · rintro ⟨h1, h2⟩ i j x y hi hx hy hj
      by_cases e : i = a
      · subst e
        rw [hx] at h2
        exact (wI_iff L x i).1 h2 j y hj hy
      · exact h1 i j x y (by omega) hx hy hj
    · intro h
      refine ⟨fun i j x y hi hx hy hj => h i j x y (by omega) hx hy hj, ?_⟩
      cases ha : L[a]? with
      | none => rfl
      | some x => exact (wI_iff L x a).2 fun i y hi hy => h a i x y (by omega) ha hy hi
theorem resp_wO (L : List Sp) : respB L = wO L L.length := by
  rw [Bool.eq_iff_iff, respB_iff, wO_iff]
  exact ⟨fun h i j x y _ hx hy hj => h i j x y hx hy hj, fun h a b x y hx hy hab => h a b x y (List.getElem?_eq_some_iff.1 hx).1 hx hy hab⟩
/-- In order, by when they were done. -/
def Srt (L : List Sp) : Prop := ∀ (i j : Nat) (x y : Sp), L[i]? = some x → L[j]? = some y → i < j → x.turn ≤ y.turn
theorem insAt_spec (x : Sp) (M : List Sp) : ∀ j, j ≤ M.length → insAt x M j ≤ j ∧ (∀ (i : Nat) (y : Sp), insAt x M j ≤ i → i < j → M[i]? = some y → x.turn < y.turn) ∧ (insAt x M j = 0 ∨ ∃ y, M[insAt x M j - 1]? = some y ∧ ¬ x.turn < y.turn)
  | 0, _ => ⟨Nat.le_refl _, fun i y h1 h2 => by omega, .inl rfl⟩
  | j + 1, hj => by
    obtain ⟨y, hy⟩ : ∃ y, M[j]? = some y := ⟨M[j], List.getElem?_eq_getElem (by omega)⟩
    by_cases hb : x.bef y = true
    · rw [insAt_yes hy hb]
      obtain ⟨h1, h2, h3⟩ := insAt_spec x M j (by omega)
      refine ⟨by omega, fun i z hi hij hz => ?_, h3⟩
      by_cases e : i = j
      · subst e
        rw [hy] at hz
        injection hz with hz
        subst hz
        exact of_decide_eq_true hb
      · exact h2 i z hi (by omega) hz
    · have hb' : x.bef y = false := by simpa using hb
      rw [insAt_no hy hb']
      exact ⟨Nat.le_refl _, fun i z h1 h2 => by omega, .inr ⟨y, by rw [Nat.add_sub_cancel]; exact hy, fun h => hb (decide_eq_true h)⟩⟩
theorem put_get (x : Sp) (M : List Sp) (j : Nat) (hj : j ≤ M.length) (i : Nat) : (putAt x M j)[i]? = if i < j then M[i]? else if i = j then some x else M[i - 1]? := by
  unfold putAt
  have hl : (M.take j).length = j := by rw [List.length_take]; omega
  rw [List.getElem?_append, hl]
  by_cases h1 : i < j
  · rw [if_pos h1, if_pos h1, List.getElem?_take, if_pos h1]
  · rw [if_neg h1, if_neg h1]
    by_cases h2 : i = j
    · subst h2
      rw [if_pos rfl, Nat.sub_self]
      rfl
    · rw [if_neg h2]
      obtain ⟨d, hd⟩ : ∃ d, i - j = d + 1 := ⟨i - j - 1, by omega⟩
      rw [hd, List.getElem?_cons_succ, List.getElem?_drop]
      congr 1
      omega
theorem ins_srt {x : Sp} {M : List Sp} (h : Srt M) : Srt (insR x M) := by
  obtain ⟨h1, h2, h3⟩ := insAt_spec x M M.length (Nat.le_refl _)
  unfold insR
  generalize insAt x M M.length = p at h1 h2 h3
  intro i j y z hy hz hij
  rw [put_get x M p h1] at hy hz
  have hlo : ∀ (i : Nat) (y : Sp), i < p → M[i]? = some y → y.turn ≤ x.turn := fun i y hi hy => by
    rcases h3 with h3 | ⟨u, hu, h3⟩
    · omega
    · by_cases e : i = p - 1
      · subst e
        rw [hu] at hy
        injection hy with hy
        subst hy
        omega
      · have := h i (p - 1) y u hy hu (by omega)
        omega
  have hhi : ∀ (i : Nat) (y : Sp), p ≤ i → M[i]? = some y → x.turn ≤ y.turn := fun i y hi hy => by
    have := h2 i y hi (List.getElem?_eq_some_iff.1 hy).1 hy
    omega
  by_cases a1 : i < p
  · rw [if_pos a1] at hy
    by_cases b1 : j < p
    · rw [if_pos b1] at hz
      exact h i j y z hy hz hij
    · rw [if_neg b1] at hz
      by_cases b2 : j = p
      · rw [if_pos b2] at hz
        injection hz with hz
        subst hz
        exact hlo i y a1 hy
      · rw [if_neg b2] at hz
        exact h i (j - 1) y z hy hz (by omega)
  · rw [if_neg a1] at hy
    rw [if_neg (by omega), if_neg (by omega)] at hz
    by_cases a2 : i = p
    · rw [if_pos a2] at hy
      injection hy with hy
      subst hy
      exact hhi (j - 1) z (by omega) hz
    · rw [if_neg a2] at hy
      exact h (i - 1) (j - 1) y z hy hz (by omega)
theorem isort_srt (L : List Sp) : Srt (isort L) := by
  have : ∀ (L M : List Sp), Srt M → Srt (L.foldl (fun M x => insR x M) M) := by
    intro L
    induction L with
    | nil => intro M h; exact h
    | cons x r ih => intro M h; exact ih _ (ins_srt h)
  exact this L [] (fun i j x y h => by simp at h)
theorem ins_perm (x : Sp) (M : List Sp) : (insR x M).Perm (x :: M) := by
  unfold insR putAt
  have h := List.perm_middle (a := x) (l₁ := M.take (insAt x M M.length)) (l₂ := M.drop (insAt x M M.length))
  rw [List.take_append_drop] at h
  exact h
theorem isort_perm (L : List Sp) : (isort L).Perm L := by
  have : ∀ (L M : List Sp), (L.foldl (fun M x => insR x M) M).Perm (L ++ M) := by
    intro L
    induction L with
    | nil => intro M; exact List.Perm.refl _
    | cons x r ih =>
      intro M
      rw [List.foldl_cons]
      refine (ih _).trans ?_
      refine ((ins_perm x M).append_left r).trans ?_
      exact List.perm_middle
  have h := this L []
  rw [List.append_nil] at h
  exact h
/-- What the law wants of those that were done. -/
structure Fine (L : List Sp) : Prop where
  up : ∀ (i j : Nat) (x y : Sp), L[i]? = some x → L[j]? = some y → i < j → x.turn < y.turn
  no : NoAh L
theorem done_fine {E : Int → Int} {es : List Hv} {a nn : Nat → Int} {xs : List Sp} (h : VH E es a nn xs) : Fine (isort (doneL xs)) := by
  have hp := isort_perm (doneL xs)
  have hmem : ∀ x, x ∈ isort (doneL xs) → 0 ≤ x.turn ∧ OKs es.length x := fun x hx => by
    have h1 := hp.mem_iff.1 hx
    unfold doneL at h1
    rw [List.mem_filter] at h1
    obtain ⟨i, hi, rfl⟩ := List.getElem_of_mem h1.1
    exact ⟨of_decide_eq_true h1.2, h.ok i _ (List.getElem?_eq_getElem hi)⟩
  have hpw : (doneL xs).Pairwise (fun x y => x.turn ≠ y.turn) := by
    have h1 : xs.Pairwise (fun x y => 0 ≤ x.turn → x.turn ≠ y.turn) := by
      rw [List.pairwise_iff_getElem]
      intro i j hi hj hij h0 he
      have := h.di i j _ _ (List.getElem?_eq_getElem hi) (List.getElem?_eq_getElem hj) h0 he
      omega
    have h2 : (doneL xs).Pairwise (fun x y => 0 ≤ x.turn → x.turn ≠ y.turn) := h1.filter _
    refine h2.imp_of_mem ?_
    intro x y hx _ hxy
    unfold doneL at hx
    rw [List.mem_filter] at hx
    exact hxy (of_decide_eq_true hx.2)
  have hpw2 : (isort (doneL xs)).Pairwise (fun x y => x.turn ≠ y.turn) := (hp.pairwise_iff (fun {x y} h e => h e.symm)).2 hpw
  have hup : ∀ (i j : Nat) (x y : Sp), (isort (doneL xs))[i]? = some x → (isort (doneL xs))[j]? = some y → i < j → x.turn < y.turn := fun i j x y hx hy hij => by
    have h1 := isort_srt (doneL xs) i j x y hx hy hij
    obtain ⟨hi, rfl⟩ := List.getElem?_eq_some_iff.1 hx
    obtain ⟨hj, rfl⟩ := List.getElem?_eq_some_iff.1 hy
    have h2 := List.pairwise_iff_getElem.1 hpw2 i j hi hj hij
    omega
  refine ⟨hup, fun a b x y hx hy hab => ?_⟩
  have h1 := hup b a y x hy hx hab
  obtain ⟨x0, xo⟩ := hmem x (List.mem_of_getElem? hx)
  obtain ⟨y0, yo⟩ := hmem y (List.mem_of_getElem? hy)
  unfold OKs at xo yo
  unfold ahd
  by_cases h2 : 0 ≤ x.reply
  · have h3 : ¬ x.reply < y.call := by omega
    simp [h3]
  · simp [h2]
end Go.Proofs.Ytaimbkikiokenaa.Hi
