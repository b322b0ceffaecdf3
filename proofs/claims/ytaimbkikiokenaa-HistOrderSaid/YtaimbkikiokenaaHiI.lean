/- awake of layer 47; the numbers that calls have. -/
import Derived.Test.YtaimbkikiokenaaHiH
namespace Go.Proofs.Ytaimbkikiokenaa.Hi
open Go.RowKit Go.Proofs.Ytaimbkikiokenaa Go.Maps
set_option linter.unusedVariables false
set_option maxRecDepth 100000
def ecells (es : List Hv) : List Value := es.flatMap Hv.cells
theorem ecells_get : ∀ (xs : List Hv) (i : Nat) (x : Hv) (j : Nat) (u : Value), xs[i]? = some x → x.cells[j]? = some u → (ecells xs)[i * 11 + j]? = some u
  | [], i, x, j, u, h, _ => by simp at h
  | y :: r, 0, x, j, u, h, hj => by
    simp at h
    subst h
    show (y.cells ++ ecells r)[0 * 11 + j]? = some u
    have : j < y.cells.length := (List.getElem?_eq_some_iff.1 hj).1
    rw [Nat.zero_mul, Nat.zero_add, List.getElem?_append_left this]
    exact hj
  | y :: r, i + 1, x, j, u, h, hj => by
    have ih := ecells_get r i x j u (by simpa using h) hj
    have hl : y.cells.length = 11 := rfl
    show (y.cells ++ ecells r)[(i + 1) * 11 + j]? = some u
    rw [List.getElem?_append_right (by omega), ← ih]
    congr 1
    omega
theorem lv_row {w : World} {g : Nat} {cs : Array Value} {es : List Hv} (h : Row w g 144 cs) (hc : cs.toList = ecells es) : Lv w (some ⟨g, 0, none⟩) es := fun i e he =>
  ⟨g, 0, rfl, h.lt, fun j u hj => by
    have h1 := ecells_get es i e j u he hj
    rw [← hc] at h1
    rw [h.cell, Nat.zero_add]
    simpa using h1⟩
theorem row_at {W : World} {g : Nat} {t : TypeId} {cs : Array Value} (hg : g = W.heap.size) : Row (W.alloc (.cells cs t)) g t cs := by
  subst hg
  exact Row.made _ _ _
set_option maxHeartbeats 2000000 in
theorem awake_any (w : World) : Calls Try.prog 51 #[] w fun e w' => e = .returned (.bool true) ∧ Below w.heap.size w w' := by
  have h1 : spansS [⟨1, 0, 0, 0, 0⟩, ⟨2, 0, 0, 0, 1⟩, ⟨3, 0, 0, 0, 1⟩] 0 [] = some [⟨0, 0, 0, 1, 2, 0, 1⟩] := by rfl
  have h2 : spansS [⟨3, 0, 0, 0, 0⟩] 0 [] = none := by rfl
  have H1 := Lib.hid h1
  have H2 := Lib.hid h2
  clear h1 h2
  go_enter Try.func51, Try.ntmps51
  go_wp2_with fail
  refine (spans_any _ 3 3 [⟨1, 0, 0, 0, 0⟩, ⟨2, 0, 0, 0, 1⟩, ⟨3, 0, 0, 0, 1⟩] _ (lv_row (row_at (by simp)) rfl) rfl (by decide) (by decide) (by decide) (fun i e he => by
    match i, he with
    | 0, he => cases he; exact ⟨⟨by decide, by decide⟩, by decide, by decide⟩
    | 1, he => cases he; exact ⟨⟨by decide, by decide⟩, by decide, by decide⟩
    | 2, he => cases he; exact ⟨⟨by decide, by decide⟩, by decide, by decide⟩)).mono ?_
  rintro e w1 hS
  rw [H1.out] at hS
  rcases hS with ⟨ys, v', ob', h1, rfl, h2, h3, h4⟩ | ⟨h1, _⟩
  · injection h1 with h1
    subst h1
    obtain ⟨g, o, cap, rfl, hob, hn1, hn2, hcl, _⟩ := h2.shape (by decide)
    have hc9 : cap ≤ 9223372036854775807 := by unfold maxLen at hn2; omega
    have hg := h2.lt g hob
    have c3 := hcl 3 (.int .i64 1) rfl
    have c4 := hcl 4 (.int .i64 2) rfl
    have HB1 := Lib.hid h4
    have r0 : Row w1 w.heap.size 102 #[.int .i64 0, .int .i64 1, .int .i64 0, .int .i64 0, .int .i64 0, .int .i64 0, .int .i64 0, .int .i64 0] := Row.below ((Row.made w _ _).alloc _) h4 (by simp; omega)
    clear h2 h3 h4 hcl
    go_wp2_with fail
    refine (spans_any _ 1 1 [⟨3, 0, 0, 0, 0⟩] _ (lv_row (row_at rfl) rfl) rfl (by decide) (by decide) (by decide) (fun i e he => by
      match i, he with
      | 0, he => cases he; exact ⟨⟨by decide, by decide⟩, by decide, by decide⟩)).mono ?_
    rintro e w2 hS
    rw [H2.out] at hS
    rcases hS with ⟨ys, v', ob', h1, _⟩ | ⟨_, rfl, hb2⟩
    · cases h1
    · have hb12 : Below w1.heap.size w1 w2 := ((Below.refl _ w1).alloc (Nat.le_refl _) _).trans (hb2.mono (by simp))
      have d3 := (hb12.cell (p := ⟨g, o + 3, none⟩) hg).trans c3
      have d4 := (hb12.cell (p := ⟨g, o + 4, none⟩) hg).trans c4
      have HB2 := Lib.hid hb12
      clear hb2 hb12 c3 c4 r0
      go_wp2
      go_ret
      exact ⟨rfl, (((Below.refl _ w).alloc (Nat.le_refl _) _).alloc (by simp) _).trans ((HB1.out.mono (by simp; omega)).trans (HB2.out.mono (by have := HB1.out.size; simp at this; omega)))⟩
  · cases h1
end Go.Proofs.Ytaimbkikiokenaa.Hi
