/- A book's calls: has a call ended; a call is done. -/
import Derived.Test.YtaimbkikiokenaaHiB
namespace Go.Proofs.Ytaimbkikiokenaa.Hi
open Go.RowKit Go.Proofs.Ytaimbkikiokenaa Go.Maps
set_option linter.unusedVariables false
set_option maxRecDepth 100000
structure Bc (w0 w : World) (b mb : Nat) (v : Value) (ob : Option Nat) (D : DataW Unit) (n : Nat) (cs : List Value) : Prop where
  be : Below w0.heap.size w0 w
  ge : w0.heap.size ≤ b
  mge : w0.heap.size ≤ mb
  oge : ∀ g, ob = some g → w0.heap.size ≤ g
  row : Row w b 142 #[v, .map (some mb)]
  seg : Seg w 104 13 v n cs ob
  own : w.ownsMap Try.prog 179 (plainElem (H := Unit) Try.prog 3) mb n D
section
variable {w0 w w' : World} {b mb g o cap n : Nat} {v : Value} {ob : Option Nat} {D : DataW Unit} {xs : List Sp} {cs : List Value}
theorem Bk.bc (h : Bk w0 w b mb v ob D xs) : Bc w0 w b mb v ob D xs.length (scells xs) := ⟨h.be, h.ge, h.mge, h.oge, h.row, h.seg, h.own⟩
theorem Bc.bk (h : Bc w0 w b mb v ob D xs.length (scells xs)) (ht : Told D xs) : Bk w0 w b mb v ob D xs := ⟨h.be, h.ge, h.mge, h.oge, h.row, h.seg, h.own, ht⟩
theorem Bc.put (h : Bc w0 w b mb (.slice (some ⟨g, o, none⟩) n cap) (some g) D n cs) (i : Nat) (hi : i < n * 13) (u : Value) : Bc w0 (w.setCell ⟨g, o + i, none⟩ u) b mb (.slice (some ⟨g, o, none⟩) n cap) (some g) D n (cs.set i u) := by
  obtain ⟨c, hr⟩ := seg_row h.seg
  have hT : Turns w (w.setCell ⟨g, o + i, none⟩ u) (fun k => k = g) := (Turns.refl w _).put g (o + i) u (fun _ => rfl)
  exact ⟨h.be.setCell (p := ⟨g, o + i, none⟩) (h.oge g rfl) u, h.ge, h.mge, h.oge, h.row.turns hT (row_ne h.row hr (by decide)), Seg.put h.seg i hi u, own_turns h.own hT (own_not_row h.own hr)⟩
theorem Bc.drewN (h : Bc w0 w b mb v ob D n cs) (k : Nat) : Bc w0 (w.drewN k) b mb v ob D n cs := ⟨below_drewN h.be k, h.ge, h.mge, h.oge, h.row, h.seg, h.own⟩
theorem Bk.at (h : Bk w0 w b mb v ob D xs) {j : Nat} {x : Sp} (hx : xs[j]? = some x) : ∃ g o cap, v = .slice (some ⟨g, o, none⟩) xs.length cap ∧ ob = some g ∧ g < w.heap.size ∧ xs.length ≤ cap ∧ cap ≤ 9223372036854775807 ∧
    (∀ i u, x.cells[i]? = some u → w.cell? ⟨g, o + j * 13 + i, none⟩ = some u) ∧ (∀ i, w.frozen? ⟨g, i, none⟩ = false) := by
  have hj : j < xs.length := (List.getElem?_eq_some_iff.1 hx).1
  obtain ⟨g, o, cap, e, hob, h1, h2, hc, hfz⟩ := h.seg.shape (by omega)
  exact ⟨g, o, cap, e, hob, h.seg.lt g hob, h1, by unfold maxLen at h2; omega, fun i u hu => by rw [Nat.add_assoc]; exact hc _ _ (scells_get xs j x i u hx hu), hfz⟩
end
theorem set_at (P R : List Value) (i k : Nat) (u : Value) (h : i = P.length + k) : (P ++ R).set i u = P ++ R.set k u := by
  subst h
  rw [List.set_append_right _ _ (Nat.le_add_right _ _), Nat.add_sub_cancel_left]
theorem scells_split {xs : List Sp} {j : Nat} {x y : Sp} (hx : xs[j]? = some x) : ∃ P Q, P.length = j * 13 ∧ scells xs = P ++ (x.cells ++ Q) ∧ scells (xs.set j y) = P ++ (y.cells ++ Q) := by
  have hj : j < xs.length := (List.getElem?_eq_some_iff.1 hx).1
  have hd : xs = xs.take j ++ x :: xs.drop (j + 1) := by
    rw [← (List.getElem?_eq_some_iff.1 hx).2, List.getElem_cons_drop, List.take_append_drop]
  refine ⟨scells (xs.take j), scells (xs.drop (j + 1)), by rw [scells_len, List.length_take]; omega, ?_, ?_⟩
  · conv => lhs; rw [hd]
    simp [scells]
  · have he : xs.set j y = xs.take j ++ y :: xs.drop (j + 1) := by
      rw [List.set_eq_take_append_cons_drop, if_pos hj]
    rw [he]
    simp [scells]
theorem hit_set {xs : List Sp} {j : Nat} {x y : Sp} (hx : xs[j]? = some x) (h1 : y.c = x.c) (h2 : y.n = x.n) (c n : Int) : fnd (xs.set j y) c n = fnd xs c n := by
  have hj : j < xs.length := (List.getElem?_eq_some_iff.1 hx).1
  have hp : hit c n y = hit c n x := by unfold hit; rw [h1, h2]
  unfold fnd
  have hm : ∀ zs : List Sp, zs.findIdx? (hit c n) = (zs.map (hit c n)).findIdx? id := fun zs => by rw [List.findIdx?_map]; rfl
  rw [hm, hm, List.map_set, hp]
  congr 1
  apply List.ext_getElem?
  intro i
  rw [List.getElem?_set]
  by_cases hij : j = i
  · subst hij
    rw [if_pos rfl, if_pos (by simpa using hj), List.getElem?_map, hx]
    rfl
  · rw [if_neg hij]
theorem told_set {D : DataW Unit} {xs : List Sp} {j : Nat} {x y : Sp} (h : Told D xs) (hx : xs[j]? = some x) (h1 : y.c = x.c) (h2 : y.n = x.n) : Told D (xs.set j y) := fun c n l hc hn hl => by
  rw [hit_set hx h1 h2]
  exact h c n l hc hn hl
theorem ended_no {w0 w : World} {b mb : Nat} {v : Value} {ob : Option Nat} {D : DataW Unit} {xs : List Sp} (h : Bk w0 w b mb v ob D xs) (c n : Int) (hc : I64 c) (hn : I64 n) (hf : fnd xs c n = none) :
    Calls Try.prog 127 #[.pointer (some ⟨b, 0, none⟩), .agg #[.int .i64 c, .int .i64 n]] w fun e w' => e = .returned (.bool false) ∧ Below w.heap.size w w' := by
  have HB := Lib.hid (h.call ((Below.refl _ w).alloc (Nat.le_refl _) (.cells #[.int .i64 c, .int .i64 n] 179)))
  clear h
  go_enter Try.func127, Try.ntmps127
  go_wp2_with fail
  refine (span_no HB.out c n hc hn hf).mono ?_
  rintro e w2 ⟨rfl, hb2⟩
  go_wp2
  go_ret
  exact ⟨rfl, ((Below.refl _ w).alloc (Nat.le_refl _) _).trans (hb2.mono (by simp))⟩
theorem ended_yes {w0 w : World} {b mb : Nat} {v : Value} {ob : Option Nat} {D : DataW Unit} {xs : List Sp} (h : Bk w0 w b mb v ob D xs) (c n : Int) (hc : I64 c) (hn : I64 n) {j : Nat} (hf : fnd xs c n = some j) {x : Sp} (hx : xs[j]? = some x) (r : Bool) (hr : decide (0 ≤ x.reply) = r) :
    Calls Try.prog 127 #[.pointer (some ⟨b, 0, none⟩), .agg #[.int .i64 c, .int .i64 n]] w fun e w' => e = .returned (.bool r) ∧ Below w.heap.size w w' := by
  have hB := h.call ((Below.refl _ w).alloc (Nat.le_refl _) (.cells #[.int .i64 c, .int .i64 n] 179))
  obtain ⟨g, o, cap, rfl, hob, hg, h1, h2, hcl, hfz⟩ := hB.at hx
  have c4 := hcl 4 (.int .i64 x.reply) rfl
  have HB := Lib.hid hB
  clear h hB hcl hfz
  go_enter Try.func127, Try.ntmps127
  go_wp2_with fail
  refine (span_yes HB.out c n hc hn hf).mono ?_
  rintro e w2 ⟨rfl, hb2⟩
  have d4 := (hb2.cell (p := ⟨g, o + j * 13 + 4, none⟩) hg).trans c4
  have HB2 := Lib.hid hb2
  clear hb2 c4
  cases r
  · have hr' : ¬ 0 ≤ x.reply := of_decide_eq_false hr
    go_wp2
    go_ret
    exact ⟨rfl, ((Below.refl _ w).alloc (Nat.le_refl _) _).trans (HB2.out.mono (by simp))⟩
  · have hr' : 0 ≤ x.reply := of_decide_eq_true hr
    go_wp2
    go_ret
    exact ⟨rfl, ((Below.refl _ w).alloc (Nat.le_refl _) _).trans (HB2.out.mono (by simp))⟩
end Go.Proofs.Ytaimbkikiokenaa.Hi
