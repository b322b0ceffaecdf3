/- A history that is made in order is one: what its calls are, as it grows. -/
import Derived.Test.YtaimbkikiokenaaHiP
import Derived.Test.YtaimbkikiokenaaHoF
import Derived.Test.YtaimbkikiokenaaHoG
namespace Go.Proofs.Ytaimbkikiokenaa.Hi
open Go.RowKit Go.Proofs.Ytaimbkikiokenaa Go.Maps
set_option linter.unusedVariables false
theorem spans_snoc (e : Hv) : ∀ (es : List Hv) (k : Nat) (xs : List Sp), spansS (es ++ [e]) k xs = (spansS es k xs).bind (fun ys => noteS ys ((k + es.length : Nat) : Int) e)
  | [], k, xs => by
    show (noteS xs (k : Int) e).bind (spansS [] (k + 1)) = _
    cases h : noteS xs (k : Int) e <;> simp [spansS, h]
  | d :: r, k, xs => by
    show (noteS xs (k : Int) d).bind (spansS (r ++ [e]) (k + 1)) = ((noteS xs (k : Int) d).bind (spansS r (k + 1))).bind _
    cases h : noteS xs (k : Int) d with
    | none => rfl
    | some ys =>
      show spansS (r ++ [e]) (k + 1) ys = (spansS r (k + 1) ys).bind _
      rw [spans_snoc e r (k + 1) ys, show k + 1 + r.length = k + (d :: r).length by rw [List.length_cons]; omega]
theorem fnd_set {xs : List Sp} {j : Nat} {x y : Sp} (hx : xs[j]? = some x) (h1 : y.c = x.c) (h2 : y.n = x.n) (c n : Int) : fnd (xs.set j y) c n = fnd xs c n := by
  unfold fnd
  induction xs generalizing j with
  | nil => simp at hx
  | cons z r ih =>
    cases j with
    | zero =>
      simp at hx
      subst hx
      rw [List.set_cons_zero, List.findIdx?_cons, List.findIdx?_cons]
      have : hit c n y = hit c n z := by unfold hit; rw [h1, h2]
      rw [this]
    | succ j =>
      rw [List.set_cons_succ, List.findIdx?_cons, List.findIdx?_cons, ih (by simpa using hx)]
theorem ahead_app {xs : List Sp} {c n : Int} (z : Sp) (h : aheadB xs c n = true) : aheadB (xs ++ [z]) c n = true := by
  cases hf : fnd xs c n with
  | none => exact absurd h (ahead_none hf)
  | some j =>
    obtain ⟨x, hx, _⟩ := fnd_get hf
    rw [ahead_some hf hx] at h
    have hf2 : fnd (xs ++ [z]) c n = some j := by rw [fnd_app, hf]
    rw [ahead_some hf2 (by rw [List.getElem?_append_left (List.getElem?_eq_some_iff.1 hx).1]; exact hx)]
    exact h
theorem ahead_set {xs : List Sp} {j : Nat} {x y : Sp} {c n : Int} (hx : xs[j]? = some x) (h1 : y.c = x.c) (h2 : y.n = x.n) (hr : 0 ≤ x.reply → 0 ≤ y.reply) (h : aheadB xs c n = true) : aheadB (xs.set j y) c n = true := by
  cases hf : fnd xs c n with
  | none => exact absurd h (ahead_none hf)
  | some i =>
    obtain ⟨z, hz, _⟩ := fnd_get hf
    rw [ahead_some hf hz] at h
    have hf2 : fnd (xs.set j y) c n = some i := by rw [fnd_set hx h1 h2]; exact hf
    have hj := (List.getElem?_eq_some_iff.1 hx).1
    by_cases e : j = i
    · subst e
      rw [hx] at hz
      injection hz with hz
      subst hz
      rw [ahead_some hf2 (x := y) (by rw [List.getElem?_set_self hj])]
      exact decide_eq_true (hr (of_decide_eq_true h))
    · rw [ahead_some hf2 (x := z) (by rw [List.getElem?_set_ne e]; exact hz)]
      exact h
/-- What a span is, in a history of so many. -/
def OKs (L : Nat) (x : Sp) : Prop := 0 ≤ x.call ∧ x.call < L ∧ (x.turn < 0 ∨ (x.call < x.turn ∧ x.turn < L)) ∧ (x.reply < 0 ∨ (x.call < x.reply ∧ x.reply < L ∧ (0 ≤ x.turn → x.turn < x.reply)))
theorem OKs.mono {L L' : Nat} {x : Sp} (h : OKs L x) (hl : L ≤ L') : OKs L' x := by
  unfold OKs at *
  omega
/-- Where a history that is made stands. -/
structure VH (E : Int → Int) (es : List Hv) (a nn : Nat → Int) (xs : List Sp) : Prop where
  sp : spansS es 0 [] = some xs
  st : ∀ c : Nat, c < 3 → (a c = 0 ∧ fnd xs c (nn c) = none) ∨ (∃ j x, fnd xs c (nn c) = some j ∧ xs[j]? = some x ∧ x.reply < 0 ∧ ((a c = 1 ∧ x.turn < 0) ∨ (a c = 2 ∧ 0 ≤ x.turn ∧ x.err = E (nn c) ∧ x.tick = c)))
  en : ∀ c : Nat, c < 3 → 0 < nn c → aheadB xs c (nn c - 1) = true
  hi : ∀ (c : Nat) (m : Int), c < 3 → nn c < m → fnd xs c m = none
  ok : ∀ (i : Nat) (x : Sp), xs[i]? = some x → OKs es.length x
  di : ∀ (i j : Nat) (x y : Sp), xs[i]? = some x → xs[j]? = some y → 0 ≤ x.turn → x.turn = y.turn → i = j
  n0 : ∀ c : Nat, 0 ≤ nn c
  ct : xs.length + (doneL xs).length ≤ es.length
def upd (f : Nat → Int) (q : Nat) (u : Int) : Nat → Int := fun i => if i = q then u else f i
theorem upd_at (f : Nat → Int) (q : Nat) (u : Int) : upd f q u q = u := if_pos rfl
theorem upd_no (f : Nat → Int) {q i : Nat} (u : Int) (h : i ≠ q) : upd f q u i = f i := if_neg h
theorem VH.zero (E : Int → Int) : VH E [] (fun _ => 0) (fun _ => 0) [] := ⟨rfl, fun c h => .inl ⟨rfl, rfl⟩, fun c h h0 => absurd h0 (by decide), fun c m h1 h2 => rfl, fun i x h => by simp at h, fun i j x y h => by simp at h, fun c => Int.le_refl _, Nat.le_refl _⟩
theorem nat_ne {c d : Nat} (h : c ≠ d) : (c : Int) ≠ (d : Int) := by omega
theorem done_set {xs : List Sp} {j : Nat} {x y : Sp} (hx : xs[j]? = some x) : (doneL (xs.set j y)).length + (if 0 ≤ x.turn then 1 else 0) = (doneL xs).length + (if 0 ≤ y.turn then 1 else 0) := by
  obtain ⟨hj, rfl⟩ := List.getElem?_eq_some_iff.1 hx
  unfold doneL
  induction xs generalizing j with
  | nil => simp at hj
  | cons z r ih =>
    cases j with
    | zero =>
      simp only [List.set_cons_zero, List.filter_cons, List.getElem_cons_zero]
      by_cases h1 : 0 ≤ z.turn <;> by_cases h2 : 0 ≤ y.turn <;> simp [h1, h2]
    | succ j =>
      have := ih (j := j) (by simpa using hj) (List.getElem?_eq_getElem (by simpa using hj))
      simp only [List.set_cons_succ, List.filter_cons, List.getElem_cons_succ]
      by_cases h1 : 0 ≤ z.turn
      · simp only [h1, decide_true, if_true, List.length_cons]
        omega
      · simp only [h1, decide_false, Bool.false_eq_true, if_false]
        exact this
/-- A call begins. -/
theorem VH.begins {E : Int → Int} {es : List Hv} {a nn : Nat → Int} {xs : List Sp} (h : VH E es a nn xs) (q : Nat) (hq : q < 3) (ha : a q = 0) (er tk : Int) : ∃ ys, VH E (es ++ [⟨1, q, nn q, er, tk⟩]) (upd a q 1) nn ys := by
  have hf : fnd xs q (nn q) = none := by
    rcases h.st q hq with ⟨_, h1⟩ | ⟨_, _, _, _, _, ⟨h1, _⟩ | ⟨h1, _⟩⟩
    · exact h1
    · omega
    · omega
  have hn : noteS xs (es.length : Int) ⟨1, q, nn q, er, tk⟩ = some (xs ++ [nsp q (nn q) es.length]) := note1_yes hf (h.n0 q) (by
    by_cases e : nn q = 0
    · exact .inl e
    · exact .inr (h.en q hq (by have := h.n0 q; omega)))
  have hg : ∀ (i : Nat) (y : Sp), (xs ++ [nsp q (nn q) es.length])[i]? = some y → (i < xs.length ∧ xs[i]? = some y) ∨ (i = xs.length ∧ y = nsp q (nn q) es.length) := fun i y hy => by
    rw [List.getElem?_append] at hy
    split at hy
    · rename_i hl
      exact .inl ⟨hl, hy⟩
    · have hi := (List.getElem?_eq_some_iff.1 hy).1
      simp at hi
      have : i - xs.length = 0 := by omega
      rw [this] at hy
      simp at hy
      exact .inr ⟨by omega, hy.symm⟩
  have hother : ∀ (c : Nat) (m : Int), (c ≠ q ∨ m ≠ nn q) → fnd (xs ++ [nsp q (nn q) es.length]) c m = fnd xs c m := fun c m hc => by
    rw [fnd_app]
    cases hh : fnd xs c m with
    | some j => rfl
    | none =>
      dsimp only
      rw [if_neg]
      rintro ⟨e1, e2⟩
      have e1' : (q : Int) = c := e1
      have e2' : nn q = m := e2
      rcases hc with hc | hc
      · exact hc (by omega)
      · exact hc e2'.symm
  refine ⟨xs ++ [nsp q (nn q) es.length], ?_, fun c hc => ?_, fun c hc h0 => ahead_app _ (h.en c hc h0), fun c m hc hm => ?_, fun i x hx => ?_, fun i j x y hx hy h1 h2 => ?_, h.n0, ?_⟩
  · rw [spans_snoc, h.sp]
    show noteS xs _ _ = _
    rw [Nat.zero_add]
    exact hn
  · by_cases e : c = q
    · subst e
      refine .inr ⟨xs.length, nsp c (nn c) es.length, ?_, by simp, show (-1 : Int) < 0 by decide, .inl ⟨upd_at _ _ _, show (-1 : Int) < 0 by decide⟩⟩
      rw [fnd_app, hf]
      dsimp only
      exact if_pos ⟨rfl, rfl⟩
    · rw [upd_no _ _ e, hother c (nn c) (.inl e)]
      rcases h.st c hc with h1 | ⟨j, x, h1, h2, h3⟩
      · exact .inl h1
      · exact .inr ⟨j, x, h1, by rw [List.getElem?_append_left (List.getElem?_eq_some_iff.1 h2).1]; exact h2, h3⟩
  · by_cases e : c = q
    · subst e
      rw [hother c m (.inr (by omega))]
      exact h.hi c m hc hm
    · rw [hother c m (.inl e)]
      exact h.hi c m hc hm
  · rw [List.length_append]
    rcases hg i x hx with ⟨_, h1⟩ | ⟨_, rfl⟩
    · exact (h.ok i x h1).mono (by simp)
    · refine ⟨?_, ?_, .inl (show (-1 : Int) < 0 by decide), .inl (show (-1 : Int) < 0 by decide)⟩
      · show (0 : Int) ≤ (es.length : Int); omega
      · show (es.length : Int) < _
        simp only [List.length_cons, List.length_nil]
        omega
  · rcases hg i x hx with ⟨h3, h4⟩ | ⟨h3, rfl⟩
    · rcases hg j y hy with ⟨h5, h6⟩ | ⟨h5, rfl⟩
      · exact h.di i j x y h4 h6 h1 h2
      · have : (nsp q (nn q) es.length).turn = -1 := rfl
        omega
    · have : (nsp q (nn q) es.length).turn = -1 := rfl
      omega
  · have h1 : doneL (xs ++ [nsp q (nn q) es.length]) = doneL xs := by unfold doneL; rw [List.filter_append]; simp
    have := h.ct
    rw [h1, List.length_append, List.length_append]
    simp only [List.length_cons, List.length_nil]
    omega
theorem get_set {xs : List Sp} {j i : Nat} {x y z : Sp} (hx : xs[j]? = some x) (h : (xs.set j y)[i]? = some z) : (i = j ∧ z = y) ∨ (i ≠ j ∧ xs[i]? = some z) := by
  have hj := (List.getElem?_eq_some_iff.1 hx).1
  by_cases e : j = i
  · subst e
    rw [List.getElem?_set_self hj] at h
    injection h with h
    exact .inl ⟨rfl, h.symm⟩
  · rw [List.getElem?_set_ne e] at h
    exact .inr ⟨fun h => e h.symm, h⟩
theorem fnd_inj {xs : List Sp} {c c' n n' : Int} {j : Nat} (h : fnd xs c n = some j) (g : fnd xs c' n' = some j) : c = c' ∧ n = n' := by
  obtain ⟨x, hx, h1, h2⟩ := fnd_get h
  obtain ⟨y, hy, g1, g2⟩ := fnd_get g
  rw [hx] at hy
  injection hy with hy
  subst hy
  exact ⟨h1.symm.trans g1, h2.symm.trans g2⟩
/-- A call is done. -/
theorem VH.turns {E : Int → Int} {es : List Hv} {a nn : Nat → Int} {xs : List Sp} (h : VH E es a nn xs) (q : Nat) (hq : q < 3) (ha : a q = 1) : ∃ ys, VH E (es ++ [⟨2, q, nn q, E (nn q), q⟩]) (upd a q 2) nn ys := by
  obtain ⟨j, x, hf, hx, hr, ht⟩ : ∃ j x, fnd xs q (nn q) = some j ∧ xs[j]? = some x ∧ x.reply < 0 ∧ x.turn < 0 := by
    rcases h.st q hq with ⟨h1, _⟩ | ⟨j, x, h1, h2, h3, ⟨_, h4⟩ | ⟨h4, _⟩⟩
    · omega
    · exact ⟨j, x, h1, h2, h3, h4⟩
    · omega
  have hn : noteS xs (es.length : Int) ⟨2, q, nn q, E (nn q), q⟩ = some (xs.set j { x with turn := (es.length : Int), err := E (nn q), tick := (q : Int) }) := note2_yes hf hx ⟨ht, hr⟩
  have hj := (List.getElem?_eq_some_iff.1 hx).1
  have hok := h.ok j x hx
  refine ⟨xs.set j { x with turn := (es.length : Int), err := E (nn q), tick := (q : Int) }, ?_, fun c hc => ?_, fun c hc h0 => ahead_set (y := { x with turn := (es.length : Int), err := E (nn q), tick := (q : Int) }) hx rfl rfl (fun e => e) (h.en c hc h0), fun c m hc hm => ?_, fun i z hz => ?_, fun i k z y hz hy h1 h2 => ?_, h.n0, ?_⟩
  · rw [spans_snoc, h.sp]
    show noteS xs _ _ = _
    rw [Nat.zero_add]
    exact hn
  · rw [fnd_set (y := { x with turn := (es.length : Int), err := E (nn q), tick := (q : Int) }) hx rfl rfl]
    by_cases e : c = q
    · subst e
      exact .inr ⟨j, { x with turn := (es.length : Int), err := E (nn c), tick := (c : Int) }, hf, by rw [List.getElem?_set_self hj], hr, .inr ⟨upd_at _ _ _, by show (0 : Int) ≤ (es.length : Int); omega, rfl, rfl⟩⟩
    · rw [upd_no _ _ e]
      rcases h.st c hc with h1 | ⟨i, z, h1, h2, h3⟩
      · exact .inl h1
      · have : j ≠ i := fun e2 => by
          subst e2
          have := (fnd_inj hf h1).1
          exact e (by omega)
        exact .inr ⟨i, z, h1, by rw [List.getElem?_set_ne this]; exact h2, h3⟩
  · rw [fnd_set (y := { x with turn := (es.length : Int), err := E (nn q), tick := (q : Int) }) hx rfl rfl]
    exact h.hi c m hc hm
  · rw [List.length_append]
    rcases get_set hx hz with ⟨_, rfl⟩ | ⟨_, h1⟩
    · unfold OKs at hok ⊢
      dsimp only
      simp only [List.length_cons, List.length_nil]
      omega
    · exact (h.ok i z h1).mono (by simp)
  · rcases get_set hx hz with ⟨h3, rfl⟩ | ⟨h3, h4⟩
    · rcases get_set hx hy with ⟨h5, rfl⟩ | ⟨h5, h6⟩
      · omega
      · have := h.ok k y h6
        unfold OKs at this
        dsimp only at h1 h2
        omega
    · rcases get_set hx hy with ⟨h5, rfl⟩ | ⟨h5, h6⟩
      · have := h.ok i z h4
        unfold OKs at this
        dsimp only at h2
        omega
      · exact h.di i k z y h4 h6 h1 h2
  · have h1 := done_set (y := { x with turn := (es.length : Int), err := E (nn q), tick := (q : Int) }) hx
    have h2 := h.ct
    rw [if_neg (by omega), if_pos (by show (0 : Int) ≤ (es.length : Int); omega)] at h1
    rw [List.length_set, List.length_append]
    simp only [List.length_cons, List.length_nil]
    omega
/-- A call tells. -/
theorem VH.tells {E : Int → Int} {es : List Hv} {a nn : Nat → Int} {xs : List Sp} (h : VH E es a nn xs) (q : Nat) (hq : q < 3) (ha : 0 < a q) : ∃ ys, VH E (es ++ [⟨3, q, nn q, E (nn q), q⟩]) (upd a q 0) (upd nn q (nn q + 1)) ys := by
  obtain ⟨j, x, hf, hx, hr, ht⟩ : ∃ j x, fnd xs q (nn q) = some j ∧ xs[j]? = some x ∧ x.reply < 0 ∧ (x.turn < 0 ∨ (x.err = E (nn q) ∧ x.tick = q)) := by
    rcases h.st q hq with ⟨h1, _⟩ | ⟨j, x, h1, h2, h3, ⟨_, h4⟩ | ⟨_, _, h4⟩⟩
    · omega
    · exact ⟨j, x, h1, h2, h3, .inl h4⟩
    · exact ⟨j, x, h1, h2, h3, .inr h4⟩
  have hn : noteS xs (es.length : Int) ⟨3, q, nn q, E (nn q), q⟩ = some (xs.set j { x with reply := (es.length : Int), err := E (nn q), tick := (q : Int) }) := note3_yes hf hx ⟨hr, ht⟩
  have hj := (List.getElem?_eq_some_iff.1 hx).1
  have hok := h.ok j x hx
  refine ⟨xs.set j { x with reply := (es.length : Int), err := E (nn q), tick := (q : Int) }, ?_, fun c hc => ?_, fun c hc h0 => ?_, fun c m hc hm => ?_, fun i z hz => ?_, fun i k z y hz hy h1 h2 => ?_, fun c => ?_, ?_⟩
  · rw [spans_snoc, h.sp]
    show noteS xs _ _ = _
    rw [Nat.zero_add]
    exact hn
  · rw [fnd_set (y := { x with reply := (es.length : Int), err := E (nn q), tick := (q : Int) }) hx rfl rfl]
    by_cases e : c = q
    · subst e
      rw [upd_at, upd_at]
      exact .inl ⟨rfl, h.hi c _ hc (by omega)⟩
    · rw [upd_no _ _ e, upd_no _ _ e]
      rcases h.st c hc with h1 | ⟨i, z, h1, h2, h3⟩
      · exact .inl h1
      · have : j ≠ i := fun e2 => by
          subst e2
          have := (fnd_inj hf h1).1
          exact e (by omega)
        exact .inr ⟨i, z, h1, by rw [List.getElem?_set_ne this]; exact h2, h3⟩
  · by_cases e : c = q
    · subst e
      rw [upd_at, show nn c + 1 - 1 = nn c by omega, ahead_some (x := { x with reply := (es.length : Int), err := E (nn c), tick := (c : Int) }) (by rw [fnd_set (y := { x with reply := (es.length : Int), err := E (nn c), tick := (c : Int) }) hx rfl rfl]; exact hf) (by rw [List.getElem?_set_self hj])]
      exact decide_eq_true (by show (0 : Int) ≤ (es.length : Int); omega)
    · rw [upd_no _ _ e] at h0 ⊢
      exact ahead_set (y := { x with reply := (es.length : Int), err := E (nn q), tick := (q : Int) }) hx rfl rfl (fun e => by show (0 : Int) ≤ (es.length : Int); omega) (h.en c hc h0)
  · rw [fnd_set (y := { x with reply := (es.length : Int), err := E (nn q), tick := (q : Int) }) hx rfl rfl]
    by_cases e : c = q
    · subst e
      rw [upd_at] at hm
      exact h.hi c m hc (by omega)
    · rw [upd_no _ _ e] at hm
      exact h.hi c m hc hm
  · rw [List.length_append]
    rcases get_set hx hz with ⟨_, rfl⟩ | ⟨_, h1⟩
    · unfold OKs at hok ⊢
      dsimp only
      simp only [List.length_cons, List.length_nil]
      omega
    · exact (h.ok i z h1).mono (by simp)
  · have ex : ∀ (i : Nat) (z : Sp), (xs.set j { x with reply := (es.length : Int), err := E (nn q), tick := (q : Int) })[i]? = some z → ∃ z', xs[i]? = some z' ∧ z'.turn = z.turn := fun i z hz => by
      rcases get_set hx hz with ⟨rfl, rfl⟩ | ⟨_, h4⟩
      · exact ⟨x, hx, rfl⟩
      · exact ⟨z, h4, rfl⟩
    obtain ⟨z', hz', e1⟩ := ex i z hz
    obtain ⟨y', hy', e2⟩ := ex k y hy
    exact h.di i k z' y' hz' hy' (by omega) (by omega)
  · by_cases e : c = q
    · subst e
      rw [upd_at]
      have := h.n0 c
      omega
    · rw [upd_no _ _ e]
      exact h.n0 c
  · have h1 := done_set (y := { x with reply := (es.length : Int), err := E (nn q), tick := (q : Int) }) hx
    have h2 := h.ct
    dsimp only at h1
    rw [List.length_set, List.length_append]
    simp only [List.length_cons, List.length_nil]
    omega
end Go.Proofs.Ytaimbkikiokenaa.Hi
