/- A heap in memory: two things change places. -/
import Derived.Test.YtbhbjblliegliaaHpC
namespace Go.Proofs.Ytbhbjblliegliaa.Hp
open Go.RowKit Go.Proofs.Ytbhbjblliegliaa
set_option linter.unusedVariables false
set_option maxRecDepth 100000
/-- A cell of a segment, written. -/
theorem Seg.put {w : World} {e : TypeId} {size n cap g o : Nat} {xs : List Value} {ob : Option Nat} (h : Seg w e size (.slice (some ⟨g, o, none⟩) n cap) n xs ob) (i : Nat) (hi : i < n * size) (u : Value) :
    Seg (w.setCell ⟨g, o + i, none⟩ u) e size (.slice (some ⟨g, o, none⟩) n cap) n (xs.set i u) ob := by
  obtain ⟨h0, A, c, hv, h1, h2, h3⟩ := h
  injection hv with e1 _ e3
  subst e1 e3
  rcases h3 with ⟨h3, _⟩ | ⟨g', o', cur, a1, a2, a3, a4, a5⟩
  · have : n = 0 := by omega
    subst this
    simp at hi
  · injection a1 with a1
    injection a1 with b1 b2
    subst b1 b2 a2
    have hr : Row w g e cur := a3
    have hle : n * size ≤ cap * size := Nat.mul_le_mul_right _ h1
    refine ⟨by rw [List.length_set]; exact h0, _, cap, rfl, h1, h2, .inr ⟨g, o, cur.setIfInBounds (o + i) u, rfl, rfl, hr.put (o + i) u, by simpa using a4, ?_⟩⟩
    rw [← a5]
    apply List.ext_getElem?
    intro j
    simp only [Array.toList_setIfInBounds, List.getElem?_take, List.getElem?_drop, List.getElem?_set]
    by_cases hj : j < n * size
    · rw [if_pos hj]
      by_cases hij : i = j
      · subst hij
        rw [if_pos rfl, if_pos rfl]
        have h1 : o + i < cur.size := by omega
        simp [h1, List.length_take, List.length_drop]
        omega
      · rw [if_neg (by omega), if_neg hij, if_pos hj]
    · rw [if_neg hj]
      by_cases hij : i = j
      · omega
      · rw [if_neg hij, if_neg hj]
theorem set_at (P R : List Value) (i k : Nat) (u : Value) (h : i = P.length + k) : (P ++ R).set i u = P ++ R.set k u := by
  subst h
  rw [List.set_append_right _ _ (Nat.le_add_right _ _), Nat.add_sub_cancel_left]
theorem hcells_set (xs : List St) (i : Nat) (hi : i < xs.length) (y : St) : (((hcells xs).set (i * 3) (.int .i64 y.t)).set (i * 3 + 1) (.int .i64 y.q)).set (i * 3 + 2) (.int .i64 y.a) = hcells (xs.set i y) := by
  have hd : xs = xs.take i ++ xs[i] :: xs.drop (i + 1) := by rw [List.getElem_cons_drop, List.take_append_drop]
  have hl : (hcells (xs.take i)).length = i * 3 := by rw [hcells_len, List.length_take]; omega
  have happ : ∀ (a : List St) (x : St) (c : List St), hcells (a ++ x :: c) = hcells a ++ (x.cells ++ hcells c) := fun a x c => by simp [hcells]
  have e1 : hcells xs = hcells (xs.take i) ++ (xs[i].cells ++ hcells (xs.drop (i + 1))) := (congrArg hcells hd).trans (happ _ _ _)
  have e2 : hcells (xs.set i y) = hcells (xs.take i) ++ (y.cells ++ hcells (xs.drop (i + 1))) := by
    rw [List.set_eq_take_append_cons_drop, if_pos hi]
    exact happ _ _ _
  rw [e1, e2, set_at _ _ (i * 3) 0 _ (by omega), set_at _ _ (i * 3 + 1) 1 _ (by omega), set_at _ _ (i * 3 + 2) 2 _ (by omega)]
  rfl
end Go.Proofs.Ytbhbjblliegliaa.Hp
