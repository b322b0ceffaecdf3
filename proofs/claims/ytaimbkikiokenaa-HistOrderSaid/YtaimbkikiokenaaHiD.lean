/- A book's calls: a call is done, or tells. -/
import Derived.Test.YtaimbkikiokenaaHiC
namespace Go.Proofs.Ytaimbkikiokenaa.Hi
open Go.RowKit Go.Proofs.Ytaimbkikiokenaa Go.Maps
set_option linter.unusedVariables false
set_option maxRecDepth 100000
theorem put9 {w0 w : World} {b mb g o cap : Nat} {D : DataW Unit} {xs : List Sp} (h : Bk w0 w b mb (.slice (some ⟨g, o, none⟩) xs.length cap) (some g) D xs) {j : Nat} {x y : Sp} (hx : xs[j]? = some x) (k : Nat) (hk : k = 3 ∨ k = 4) (u err tick : Int)
    (hy : (k = 3 ∧ y = { x with turn := u, err := err, tick := tick }) ∨ (k = 4 ∧ y = { x with reply := u, err := err, tick := tick })) :
    Bk w0 (((((((((w.setCell ⟨g, o + j * 13 + k, none⟩ (.int .i64 u)).setCell ⟨g, o + j * 13 + 5, none⟩ (.int .i64 err)).setCell ⟨g, o + j * 13 + 5 + 1, none⟩ (.int .i64 tick)).setCell ⟨g, o + j * 13 + 5 + 2, none⟩ (.int .i64 0)).setCell ⟨g, o + j * 13 + 5 + 3, none⟩ (.int .i64 0)).setCell ⟨g, o + j * 13 + 5 + 4, none⟩ (.int .i64 0)).setCell ⟨g, o + j * 13 + 5 + 5, none⟩ (.int .i64 0)).setCell ⟨g, o + j * 13 + 5 + 6, none⟩ (.int .i64 0)).setCell ⟨g, o + j * 13 + 5 + 7, none⟩ (.int .i64 0)) b mb (.slice (some ⟨g, o, none⟩) xs.length cap) (some g) D (xs.set j y) := by
  have hj : j < xs.length := (List.getElem?_eq_some_iff.1 hx).1
  have hb : ∀ i, i < 13 → j * 13 + i < xs.length * 13 := fun i hi => by omega
  have h9 := ((((((((h.bc.put (j * 13 + k) (hb k (by omega)) (.int .i64 u)).put (j * 13 + 5) (hb 5 (by omega)) (.int .i64 err)).put (j * 13 + 6) (hb 6 (by omega)) (.int .i64 tick)).put (j * 13 + 7) (hb 7 (by omega)) (.int .i64 0)).put (j * 13 + 8) (hb 8 (by omega)) (.int .i64 0)).put (j * 13 + 9) (hb 9 (by omega)) (.int .i64 0)).put (j * 13 + 10) (hb 10 (by omega)) (.int .i64 0)).put (j * 13 + 11) (hb 11 (by omega)) (.int .i64 0)).put (j * 13 + 12) (hb 12 (by omega)) (.int .i64 0)
  obtain ⟨P, Q, hP, e1, e2⟩ := scells_split hx (y := y)
  have hcells : (((((((((scells xs).set (j * 13 + k) (.int .i64 u)).set (j * 13 + 5) (.int .i64 err)).set (j * 13 + 6) (.int .i64 tick)).set (j * 13 + 7) (.int .i64 0)).set (j * 13 + 8) (.int .i64 0)).set (j * 13 + 9) (.int .i64 0)).set (j * 13 + 10) (.int .i64 0)).set (j * 13 + 11) (.int .i64 0)).set (j * 13 + 12) (.int .i64 0) = scells (xs.set j y) := by
    rw [e2, e1]
    rw [set_at P _ (j * 13 + k) k _ (by omega), set_at P _ (j * 13 + 5) 5 _ (by omega), set_at P _ (j * 13 + 6) 6 _ (by omega), set_at P _ (j * 13 + 7) 7 _ (by omega), set_at P _ (j * 13 + 8) 8 _ (by omega), set_at P _ (j * 13 + 9) 9 _ (by omega), set_at P _ (j * 13 + 10) 10 _ (by omega), set_at P _ (j * 13 + 11) 11 _ (by omega), set_at P _ (j * 13 + 12) 12 _ (by omega)]
    rcases hy with ⟨rfl, rfl⟩ | ⟨rfl, rfl⟩
    · rfl
    · rfl
  rw [hcells] at h9
  have hl : (xs.set j y).length = xs.length := by simp
  have ht : Told D (xs.set j y) := told_set h.told hx (by rcases hy with ⟨_, rfl⟩ | ⟨_, rfl⟩ <;> rfl) (by rcases hy with ⟨_, rfl⟩ | ⟨_, rfl⟩ <;> rfl)
  refine Bc.bk ?_ ht
  rw [hl]
  have e : ∀ i, o + (j * 13 + i) = o + j * 13 + i := fun i => by omega
  have e6 : o + j * 13 + 6 = o + j * 13 + 5 + 1 := rfl
  simp only [e] at h9
  exact h9
theorem turn_no {w : World} {g p : Nat} (hg : g < w.heap.size) (t r : Int) (ht : w.cell? ⟨g, p + 3, none⟩ = some (.int .i64 t)) (hr : w.cell? ⟨g, p + 4, none⟩ = some (.int .i64 r)) (hno : 0 ≤ t ∨ 0 ≤ r) (at' err tick : Int) :
    Calls Try.prog 116 #[.pointer (some ⟨g, p, none⟩), .int .i64 at', (.agg #[.int .i64 err, .int .i64 tick, .int .i64 0, .int .i64 0, .int .i64 0, .int .i64 0, .int .i64 0, .int .i64 0])] w fun e w' => e = .returned (.bool false) ∧ Below w.heap.size w w' := by
  go_enter Try.func116, Try.ntmps116
  by_cases h3 : 0 ≤ t
  · go_wp2
    go_ret
    exact ⟨rfl, by go_grown⟩
  · have h4 : 0 ≤ r := by omega
    go_wp2
    go_ret
    exact ⟨rfl, by go_grown⟩
theorem turn_yes {w0 w : World} {b mb : Nat} {v : Value} {ob : Option Nat} {D : DataW Unit} {xs : List Sp} (h : Bk w0 w b mb v ob D xs) {j : Nat} {x : Sp} (hx : xs[j]? = some x) (ht : x.turn < 0) (hr : x.reply < 0) (g o cap : Nat) (hv : v = .slice (some ⟨g, o, none⟩) xs.length cap) (at' err tick : Int) :
    Calls Try.prog 116 #[.pointer (some ⟨g, o + j * 13, none⟩), .int .i64 at', (.agg #[.int .i64 err, .int .i64 tick, .int .i64 0, .int .i64 0, .int .i64 0, .int .i64 0, .int .i64 0, .int .i64 0])] w fun e w' => e = .returned (.bool true) ∧ Bk w0 w' b mb v ob D (xs.set j { x with turn := at', err := err, tick := tick }) := by
  obtain ⟨g', o', cap', e, hob, hg, h1, h2, hcl, hfz⟩ := h.at hx
  rw [hv] at e
  injection e with e1 _ e3
  injection e1 with e1
  injection e1 with e1 e2
  subst e1 e2 e3 hv
  have c3 := hcl 3 (.int .i64 x.turn) rfl
  have c4 := hcl 4 (.int .i64 x.reply) rfl
  have c5 := hcl 5 (.int .i64 x.err) rfl
  have c6 := hcl 6 (.int .i64 x.tick) rfl
  have c7 := hcl 7 (.int .i64 0) rfl
  have c8 := hcl 8 (.int .i64 0) rfl
  have c9 := hcl 9 (.int .i64 0) rfl
  have c10 := hcl 10 (.int .i64 0) rfl
  have c11 := hcl 11 (.int .i64 0) rfl
  have c12 := hcl 12 (.int .i64 0) rfl
  have z := fun i => hfz (o + j * 13 + i)
  have z3 := z 3
  have z5 := z 5
  have z6 := z 6
  have z7 := z 7
  have z8 := z 8
  have z9 := z 9
  have z10 := z 10
  have z11 := z 11
  have z12 := z 12
  have hne : w.heap.size ≠ g := by omega
  have hne2 : g ≠ w.heap.size := by omega
  have H := Lib.hid h
  clear h hcl hfz z
  go_enter Try.func116, Try.ntmps116
  go_wp2
  go_region
  all_goals
    go_wp2
    go_ret
    subst hob
    exact ⟨rfl, Bk.call (put9 H.out hx 3 (.inl rfl) at' err tick (.inl ⟨rfl, rfl⟩)) (below_drewN ((Below.refl _ _).alloc (Nat.le_refl _) _) 1)⟩
end Go.Proofs.Ytaimbkikiokenaa.Hi
