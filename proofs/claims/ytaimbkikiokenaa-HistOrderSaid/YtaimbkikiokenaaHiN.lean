/- The spans that the law reckons by itself. -/
import Derived.Test.YtaimbkikiokenaaHiM
namespace Go.Proofs.Ytaimbkikiokenaa.Hi
open Go.RowKit Go.Proofs.Ytaimbkikiokenaa Go.Maps
set_option linter.unusedVariables false
set_option maxRecDepth 100000
/-- No call stands twice. -/
def Uniq (xs : List Sp) : Prop := ∀ (i j : Nat) (x y : Sp), xs[i]? = some x → xs[j]? = some y → x.c = y.c → x.n = y.n → i = j
/-- The last of the first so many that a test finds, or -1. -/
def lst (p : Sp → Bool) (xs : List Sp) : Nat → Int
  | 0 => -1
  | j + 1 => match xs[j]? with
    | some x => if p x = true then (j : Int) else lst p xs j
    | none => lst p xs j
theorem lst_succ (p : Sp → Bool) (xs : List Sp) (j : Nat) (x : Sp) (h : xs[j]? = some x) : lst p xs (j + 1) = if p x = true then (j : Int) else lst p xs j := by
  show (match xs[j]? with
    | some x => if p x = true then (j : Int) else lst p xs j
    | none => lst p xs j) = _
  rw [h]
def fndI (xs : List Sp) (c n : Int) : Int := match fnd xs c n with
  | some j => (j : Int)
  | none => -1
theorem fnd_none {xs : List Sp} {c n : Int} (h : fnd xs c n = none) {j : Nat} {x : Sp} (hx : xs[j]? = some x) : hit c n x = false := by
  have := List.findIdx?_eq_none_iff.1 h x (List.mem_of_getElem? hx)
  simpa using this
theorem lst_fnd {xs : List Sp} (hu : Uniq xs) (c n : Int) : ∀ J, J ≤ xs.length → lst (hit c n) xs J = match fnd xs c n with
    | some j => if j < J then (j : Int) else -1
    | none => -1
  | 0, _ => by
    cases fnd xs c n <;> rfl
  | J + 1, hJ => by
    have ih := lst_fnd hu c n J (by omega)
    obtain ⟨x, hx⟩ : ∃ x, xs[J]? = some x := ⟨_, List.getElem?_eq_getElem (by omega)⟩
    rw [lst_succ _ _ _ _ hx]
    cases hf : fnd xs c n with
    | none =>
      rw [hf] at ih
      rw [if_neg (by rw [fnd_none hf hx]; decide)]
      exact ih
    | some j =>
      rw [hf] at ih
      obtain ⟨y, hy, hyc, hyn⟩ := fnd_get hf
      dsimp only at ih ⊢
      by_cases hh : hit c n x = true
      · rw [if_pos hh]
        have hp := of_decide_eq_true hh
        have : J = j := hu J j x y hx hy (by rw [hp.1, hyc]) (by rw [hp.2, hyn])
        subst this
        rw [if_pos (by omega)]
      · rw [if_neg hh, ih]
        have : j ≠ J := fun e => by
          subst e
          rw [hx] at hy
          injection hy with hy
          subst hy
          exact hh (decide_eq_true ⟨hyc, hyn⟩)
        by_cases hjJ : j < J
        · rw [if_pos hjJ, if_pos (by omega)]
        · rw [if_neg hjJ, if_neg (by omega)]
theorem lst_all {xs : List Sp} (hu : Uniq xs) (c n : Int) : lst (hit c n) xs xs.length = fndI xs c n := by
  rw [lst_fnd hu c n xs.length (Nat.le_refl _)]
  unfold fndI
  cases hf : fnd xs c n with
  | none => rfl
  | some j =>
    obtain ⟨x, hx, _⟩ := fnd_get hf
    have := (List.getElem?_eq_some_iff.1 hx).1
    dsimp only
    rw [if_pos this]
theorem uniq_push {xs : List Sp} {x : Sp} (h : Uniq xs) (hf : fnd xs x.c x.n = none) : Uniq (xs ++ [x]) := by
  have hno : ∀ (i : Nat) (y : Sp), xs[i]? = some y → ¬ (y.c = x.c ∧ y.n = x.n) := fun i y hy he => by
    have := fnd_none hf hy
    unfold hit at this
    exact absurd he (of_decide_eq_false this)
  have hg : ∀ (i : Nat) (y : Sp), (xs ++ [x])[i]? = some y → (i < xs.length ∧ xs[i]? = some y) ∨ (i = xs.length ∧ y = x) := fun i y hy => by
    rw [List.getElem?_append] at hy
    split at hy
    · rename_i hl
      exact .inl ⟨hl, hy⟩
    · have hi := (List.getElem?_eq_some_iff.1 hy).1
      simp at hi
      have : i - xs.length = 0 := by omega
      rw [this] at hy
      simp at hy
      exact .inr ⟨by omega, hy.symm⟩
  intro i j y z hy hz hc hn
  rcases hg i y hy with ⟨h1, h2⟩ | ⟨h1, h2⟩
  · rcases hg j z hz with ⟨h3, h4⟩ | ⟨h3, h4⟩
    · exact h i j y z h2 h4 hc hn
    · subst h4
      exact absurd ⟨hc, hn⟩ (hno i y h2)
  · rcases hg j z hz with ⟨h3, h4⟩ | ⟨h3, h4⟩
    · subst h2
      exact absurd ⟨hc.symm, hn.symm⟩ (hno j z h4)
    · omega
theorem uniq_set {xs : List Sp} {j : Nat} {x y : Sp} (h : Uniq xs) (hx : xs[j]? = some x) (h1 : y.c = x.c) (h2 : y.n = x.n) : Uniq (xs.set j y) := by
  have hg : ∀ (i : Nat) (z : Sp), (xs.set j y)[i]? = some z → ∃ z', xs[i]? = some z' ∧ z'.c = z.c ∧ z'.n = z.n := fun i z hz => by
    rw [List.getElem?_set] at hz
    split at hz
    · rename_i e
      subst e
      split at hz
      · injection hz with hz
        subst hz
        exact ⟨x, hx, h1.symm, h2.symm⟩
      · cases hz
    · exact ⟨z, hz, rfl, rfl⟩
  intro i k z z2 hz hz2 hc hn
  obtain ⟨a, ha, ac, an⟩ := hg i z hz
  obtain ⟨b, hb, bc, bn⟩ := hg k z2 hz2
  exact h i k a b ha hb (by rw [ac, bc, hc]) (by rw [an, bn, hn])
/-- The history, and the spans' cells. -/
structure Hc (w0 w : World) (hv : Value) (es : List Hv) (v : Value) (ob : Option Nat) (n : Nat) (cs : List Value) : Prop where
  be : Below w0.heap.size w0 w
  he : ∃ oe, Seg w 144 11 hv es.length (ecells es) oe
  sg : Seg w 104 13 v n cs ob
  og : ∀ g, ob = some g → w0.heap.size ≤ g
structure Hs (w0 w : World) (hv : Value) (es : List Hv) (v : Value) (xs : List Sp) : Prop where
  hc : ∃ ob, Hc w0 w hv es v ob xs.length (scells xs)
  un : Uniq xs
section
variable {w0 w w' : World} {hv v : Value} {es : List Hv} {ob : Option Nat} {n : Nat} {cs : List Value} {xs : List Sp}
theorem Hc.turn {S : Nat → Prop} (h : Hc w0 w hv es v ob n cs) (g : Turns w w' S) (hw : ∀ j, j < w0.heap.size → ¬ S j) (hS : ∀ b, S b → ∃ t c, t ≠ 144 ∧ Row w b t c) : Below w0.heap.size w0 w' ∧ ∃ oe, Seg w' 144 11 hv es.length (ecells es) oe := by
  obtain ⟨oe, he⟩ := h.he
  refine ⟨g.below h.be h.be.size hw, oe, he.turns g (fun b hb hs => ?_)⟩
  subst hb
  obtain ⟨t, c, hn, hr⟩ := hS b hs
  obtain ⟨c', hr'⟩ := seg_row he
  exact row_ne hr' hr (fun e => hn e.symm) rfl
theorem Hc.call (h : Hc w0 w hv es v ob n cs) (g : Below w.heap.size w w') : Hc w0 w' hv es v ob n cs := by
  obtain ⟨oe, he⟩ := h.he
  exact ⟨h.be.trans (g.mono h.be.size), ⟨oe, he.turns (Turns.of_below g) (fun _ _ x => x)⟩, h.sg.turns (Turns.of_below g) (fun _ _ x => x), h.og⟩
theorem Hs.call (h : Hs w0 w hv es v xs) (g : Below w.heap.size w w') : Hs w0 w' hv es v xs := by
  obtain ⟨ob, hc⟩ := h.hc
  exact ⟨⟨ob, hc.call g⟩, h.un⟩
theorem Hs.alloc (h : Hs w0 w hv es v xs) (x : Obj) : Hs w0 (w.alloc x) hv es v xs := h.call ((Below.refl _ w).alloc (Nat.le_refl _) x)
theorem Hs.drew (h : Hs w0 w hv es v xs) : Hs w0 w.drew hv es v xs := h.call (below_drewN (Below.refl _ w) 1)
theorem Hs.drewN (h : Hs w0 w hv es v xs) (d : Nat) : Hs w0 (w.drewN d) hv es v xs := h.call (below_drewN (Below.refl _ w) d)
theorem Hc.put {g o cap : Nat} (h : Hc w0 w hv es (.slice (some ⟨g, o, none⟩) n cap) (some g) n cs) (i : Nat) (hi : i < n * 13) (u : Value) : Hc w0 (w.setCell ⟨g, o + i, none⟩ u) hv es (.slice (some ⟨g, o, none⟩) n cap) (some g) n (cs.set i u) := by
  obtain ⟨c, hr⟩ := seg_row h.sg
  have hT : Turns w (w.setCell ⟨g, o + i, none⟩ u) (fun k => k = g) := (Turns.refl w _).put g (o + i) u (fun _ => rfl)
  obtain ⟨h1, h2⟩ := h.turn hT (fun j hj e => by have := h.og g rfl; omega) (fun b hb => by subst hb; exact ⟨_, c, by decide, hr⟩)
  exact ⟨h1, h2, Seg.put h.sg i hi u, h.og⟩
theorem Hs.at (h : Hs w0 w hv es v xs) {j : Nat} {x : Sp} (hx : xs[j]? = some x) : ∃ g o cap, v = .slice (some ⟨g, o, none⟩) xs.length cap ∧ g < w.heap.size ∧ xs.length ≤ cap ∧ cap ≤ 9223372036854775807 ∧
    (∀ i u, x.cells[i]? = some u → w.cell? ⟨g, o + j * 13 + i, none⟩ = some u) ∧ (∀ i, w.frozen? ⟨g, i, none⟩ = false) ∧ Hc w0 w hv es v (some g) xs.length (scells xs) := by
  have hj : j < xs.length := (List.getElem?_eq_some_iff.1 hx).1
  obtain ⟨ob, hcc⟩ := h.hc
  obtain ⟨g, o, cap, e, hob, h1, h2, hc, hfz⟩ := hcc.sg.shape (by omega)
  subst hob
  exact ⟨g, o, cap, e, hcc.sg.lt g rfl, h1, by unfold maxLen at h2; omega, fun i u hu => by rw [Nat.add_assoc]; exact hc _ _ (scells_get xs j x i u hx hu), hfz, hcc⟩
theorem Hs.push {w2 : World} {v2 : Value} {ob2 : Option Nat} {x : Sp} {o : Obj} (h : Hc w0 w hv es v ob xs.length (scells xs)) (hu : Uniq (xs ++ [x]))
    (hs : Seg w2 104 13 v2 (xs.length + 1) (scells xs ++ x.cells) ob2) (ht : Turns (w.alloc o) w2 (fun k => ob = some k)) (ho : ob2 = ob ∨ ∃ g, ob2 = some g ∧ (w.alloc o).heap.size ≤ g) : Hs w0 w2 hv es v2 (xs ++ [x]) := by
  have hz := h.be.size
  have ha := h.call ((Below.refl _ w).alloc (Nat.le_refl _) o)
  obtain ⟨h1, h2⟩ := ha.turn ht (fun j hj e => by have := h.og j e; omega) (fun b hb => by
    have hsg := ha.sg
    rw [hb] at hsg
    obtain ⟨c, hr⟩ := seg_row hsg
    exact ⟨_, c, by decide, hr⟩)
  refine ⟨⟨ob2, h1, h2, ?_, fun g hg => ?_⟩, hu⟩
  · have hc : scells (xs ++ [x]) = scells xs ++ x.cells := by simp [scells]
    rw [hc, List.length_append]
    exact hs
  · rcases ho with rfl | ⟨g', rfl, hg'⟩
    · exact h.og g hg
    · cases hg
      simp at hg'
      omega
end
theorem hput9 {w0 w : World} {hv : Value} {es : List Hv} {g o cap : Nat} {xs : List Sp} (h : Hc w0 w hv es (.slice (some ⟨g, o, none⟩) xs.length cap) (some g) xs.length (scells xs)) (hu : Uniq xs) {j : Nat} {x y : Sp} (hx : xs[j]? = some x) (k : Nat) (hk : k = 3 ∨ k = 4) (u err tick : Int)
    (hy : (k = 3 ∧ y = { x with turn := u, err := err, tick := tick }) ∨ (k = 4 ∧ y = { x with reply := u, err := err, tick := tick })) :
    Hs w0 (((((((((w.setCell ⟨g, o + j * 13 + k, none⟩ (.int .i64 u)).setCell ⟨g, o + j * 13 + 5, none⟩ (.int .i64 err)).setCell ⟨g, o + j * 13 + 5 + 1, none⟩ (.int .i64 tick)).setCell ⟨g, o + j * 13 + 5 + 2, none⟩ (.int .i64 0)).setCell ⟨g, o + j * 13 + 5 + 3, none⟩ (.int .i64 0)).setCell ⟨g, o + j * 13 + 5 + 4, none⟩ (.int .i64 0)).setCell ⟨g, o + j * 13 + 5 + 5, none⟩ (.int .i64 0)).setCell ⟨g, o + j * 13 + 5 + 6, none⟩ (.int .i64 0)).setCell ⟨g, o + j * 13 + 5 + 7, none⟩ (.int .i64 0)) hv es (.slice (some ⟨g, o, none⟩) xs.length cap) (xs.set j y) := by
  have hj : j < xs.length := (List.getElem?_eq_some_iff.1 hx).1
  have hb : ∀ i, i < 13 → j * 13 + i < xs.length * 13 := fun i hi => by omega
  have h9 := ((((((((h.put (j * 13 + k) (hb k (by omega)) (.int .i64 u)).put (j * 13 + 5) (hb 5 (by omega)) (.int .i64 err)).put (j * 13 + 6) (hb 6 (by omega)) (.int .i64 tick)).put (j * 13 + 7) (hb 7 (by omega)) (.int .i64 0)).put (j * 13 + 8) (hb 8 (by omega)) (.int .i64 0)).put (j * 13 + 9) (hb 9 (by omega)) (.int .i64 0)).put (j * 13 + 10) (hb 10 (by omega)) (.int .i64 0)).put (j * 13 + 11) (hb 11 (by omega)) (.int .i64 0)).put (j * 13 + 12) (hb 12 (by omega)) (.int .i64 0)
  obtain ⟨P, Q, hP, e1, e2⟩ := scells_split hx (y := y)
  have hcells : (((((((((scells xs).set (j * 13 + k) (.int .i64 u)).set (j * 13 + 5) (.int .i64 err)).set (j * 13 + 6) (.int .i64 tick)).set (j * 13 + 7) (.int .i64 0)).set (j * 13 + 8) (.int .i64 0)).set (j * 13 + 9) (.int .i64 0)).set (j * 13 + 10) (.int .i64 0)).set (j * 13 + 11) (.int .i64 0)).set (j * 13 + 12) (.int .i64 0) = scells (xs.set j y) := by
    rw [e2, e1]
    rw [set_at P _ (j * 13 + k) k _ (by omega), set_at P _ (j * 13 + 5) 5 _ (by omega), set_at P _ (j * 13 + 6) 6 _ (by omega), set_at P _ (j * 13 + 7) 7 _ (by omega), set_at P _ (j * 13 + 8) 8 _ (by omega), set_at P _ (j * 13 + 9) 9 _ (by omega), set_at P _ (j * 13 + 10) 10 _ (by omega), set_at P _ (j * 13 + 11) 11 _ (by omega), set_at P _ (j * 13 + 12) 12 _ (by omega)]
    rcases hy with ⟨rfl, rfl⟩ | ⟨rfl, rfl⟩
    · rfl
    · rfl
  rw [hcells] at h9
  have hl : (xs.set j y).length = xs.length := by simp
  have e : ∀ i, o + (j * 13 + i) = o + j * 13 + i := fun i => by omega
  simp only [e] at h9
  refine ⟨⟨some g, ?_⟩, uniq_set hu hx (by rcases hy with ⟨_, rfl⟩ | ⟨_, rfl⟩ <;> rfl) (by rcases hy with ⟨_, rfl⟩ | ⟨_, rfl⟩ <;> rfl)⟩
  rw [hl]
  exact h9
end Go.Proofs.Ytaimbkikiokenaa.Hi
