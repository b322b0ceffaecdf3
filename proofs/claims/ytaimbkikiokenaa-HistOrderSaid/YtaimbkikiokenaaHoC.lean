/- Things as they are sorted. -/
import Derived.Test.YtaimbkikiokenaaHoA
namespace Go.Proofs.Ytaimbkikiokenaa.Hi
open Go.RowKit Go.Proofs.Ytaimbkikiokenaa Go.Maps
set_option linter.unusedVariables false
set_option maxRecDepth 100000
def Sp.bef (x y : Sp) : Bool := decide (x.turn < y.turn)
/-- Where a thing goes: behind all that are not behind it. -/
def insAt (x : Sp) (M : List Sp) : Nat → Nat
  | 0 => 0
  | j + 1 => match M[j]? with
    | some y => if x.bef y = true then insAt x M j else j + 1
    | none => j + 1
def putAt (x : Sp) (M : List Sp) (j : Nat) : List Sp := M.take j ++ x :: M.drop j
def insR (x : Sp) (M : List Sp) : List Sp := putAt x M (insAt x M M.length)
def isort (L : List Sp) : List Sp := L.foldl (fun M x => insR x M) []
theorem insAt_yes {x y : Sp} {M : List Sp} {j : Nat} (h : M[j]? = some y) (hb : x.bef y = true) : insAt x M (j + 1) = insAt x M j := by
  show (match M[j]? with | some y => if x.bef y = true then insAt x M j else j + 1 | none => j + 1) = _
  rw [h]
  dsimp only
  rw [if_pos hb]
theorem insAt_no {x y : Sp} {M : List Sp} {j : Nat} (h : M[j]? = some y) (hb : x.bef y = false) : insAt x M (j + 1) = j + 1 := by
  show (match M[j]? with | some y => if x.bef y = true then insAt x M j else j + 1 | none => j + 1) = _
  rw [h]
  dsimp only
  rw [if_neg (by simp [hb])]
theorem insR_len (x : Sp) (M : List Sp) : (insR x M).length = M.length + 1 := by
  unfold insR putAt
  simp
  omega
theorem isort_take {L : List Sp} {i : Nat} (h : i < L.length) : isort (L.take (i + 1)) = insR L[i] (isort (L.take i)) := by
  unfold isort
  rw [List.take_succ_eq_append_getElem h, List.foldl_append]
  rfl
theorem isort_len : ∀ (L : List Sp), (isort L).length = L.length := by
  have : ∀ (L M : List Sp), (L.foldl (fun M x => insR x M) M).length = M.length + L.length := by
    intro L
    induction L with
    | nil => intro M; simp
    | cons x r ih => intro M; rw [List.foldl_cons, ih, insR_len]; simp; omega
  intro L
  unfold isort
  rw [this]
  simp
theorem isort_one (L : List Sp) (h : 0 < L.length) : isort (L.take 1) = L.take 1 := by
  match L, h with
  | x :: r, _ => rfl
/-- Things as they lie in a block. -/
structure DL (w : World) (g o : Nat) (L : List Sp) : Prop where
  ce : ∀ k (h : k < L.length) j u, (L[k].cells)[j]? = some u → w.cell? ⟨g, o + k * 13 + j, none⟩ = some u
  fz : ∀ j, w.frozen? ⟨g, j, none⟩ = false
theorem DL.all {w : World} {g o : Nat} {L : List Sp} (h : DL w g o L) {k : Nat} (hk : k < L.length) {r : Sp} (hr : L[k] = r) : w.cell? ⟨g, o + k * 13, none⟩ = some (.int .i64 r.c) ∧ w.cell? ⟨g, o + k * 13 + 1, none⟩ = some (.int .i64 r.n) ∧ w.cell? ⟨g, o + k * 13 + 2, none⟩ = some (.int .i64 r.call) ∧ w.cell? ⟨g, o + k * 13 + 3, none⟩ = some (.int .i64 r.turn) ∧ w.cell? ⟨g, o + k * 13 + 4, none⟩ = some (.int .i64 r.reply) ∧ w.cell? ⟨g, o + k * 13 + 5, none⟩ = some (.int .i64 r.err) ∧ w.cell? ⟨g, o + k * 13 + 6, none⟩ = some (.int .i64 r.tick) ∧ w.cell? ⟨g, o + k * 13 + 7, none⟩ = some (.int .i64 0) ∧ w.cell? ⟨g, o + k * 13 + 8, none⟩ = some (.int .i64 0) ∧ w.cell? ⟨g, o + k * 13 + 9, none⟩ = some (.int .i64 0) ∧ w.cell? ⟨g, o + k * 13 + 10, none⟩ = some (.int .i64 0) ∧ w.cell? ⟨g, o + k * 13 + 11, none⟩ = some (.int .i64 0) ∧ w.cell? ⟨g, o + k * 13 + 12, none⟩ = some (.int .i64 0) := by
  subst hr
  exact ⟨h.ce k hk 0 _ rfl, h.ce k hk 1 _ rfl, h.ce k hk 2 _ rfl, h.ce k hk 3 _ rfl, h.ce k hk 4 _ rfl, h.ce k hk 5 _ rfl, h.ce k hk 6 _ rfl, h.ce k hk 7 _ rfl, h.ce k hk 8 _ rfl, h.ce k hk 9 _ rfl, h.ce k hk 10 _ rfl, h.ce k hk 11 _ rfl, h.ce k hk 12 _ rfl⟩
def setK (w : World) (g p : Nat) (u0 u1 u2 u3 u4 u5 u6 u7 u8 u9 u10 u11 u12 : Value) : World := (((((((((((((w.setCell ⟨g, p, none⟩ u0).setCell ⟨g, p + 1, none⟩ u1).setCell ⟨g, p + 2, none⟩ u2).setCell ⟨g, p + 3, none⟩ u3).setCell ⟨g, p + 4, none⟩ u4).setCell ⟨g, p + 5, none⟩ u5).setCell ⟨g, p + 6, none⟩ u6).setCell ⟨g, p + 7, none⟩ u7).setCell ⟨g, p + 8, none⟩ u8).setCell ⟨g, p + 9, none⟩ u9).setCell ⟨g, p + 10, none⟩ u10).setCell ⟨g, p + 11, none⟩ u11).setCell ⟨g, p + 12, none⟩ u12)
theorem frozen_set (w : World) (p a : Addr) (u : Value) : (w.setCell p u).frozen? a = w.frozen? a := by simp
theorem DL.store {w : World} {g o : Nat} {L : List Sp} (h : DL w g o L) {k : Nat} (hk : k < L.length) (r : Sp) : DL (setK w g (o + k * 13) (.int .i64 r.c) (.int .i64 r.n) (.int .i64 r.call) (.int .i64 r.turn) (.int .i64 r.reply) (.int .i64 r.err) (.int .i64 r.tick) (.int .i64 0) (.int .i64 0) (.int .i64 0) (.int .i64 0) (.int .i64 0) (.int .i64 0)) g o (L.set k r) := by
  obtain ⟨c0, c1, c2, c3, c4, c5, c6, c7, c8, c9, c10, c11, c12⟩ := h.all hk rfl
  unfold setK
  refine ⟨fun i hi j u hu => ?_, fun j => by simp only [frozen_set]; exact h.fz j⟩
  have hi' : i < L.length := by simpa using hi
  by_cases hik : i = k
  · subst hik
    have hu' : (r.cells)[j]? = some u := by simpa using hu
    match j, hu' with
    | 0, hu' => cases hu'; simp [World.cell?_setCell_other, World.cell?_setCell_same', c0]
    | 1, hu' => cases hu'; simp [World.cell?_setCell_other, World.cell?_setCell_same', c1]
    | 2, hu' => cases hu'; simp [World.cell?_setCell_other, World.cell?_setCell_same', c2]
    | 3, hu' => cases hu'; simp [World.cell?_setCell_other, World.cell?_setCell_same', c3]
    | 4, hu' => cases hu'; simp [World.cell?_setCell_other, World.cell?_setCell_same', c4]
    | 5, hu' => cases hu'; simp [World.cell?_setCell_other, World.cell?_setCell_same', c5]
    | 6, hu' => cases hu'; simp [World.cell?_setCell_other, World.cell?_setCell_same', c6]
    | 7, hu' => cases hu'; simp [World.cell?_setCell_other, World.cell?_setCell_same', c7]
    | 8, hu' => cases hu'; simp [World.cell?_setCell_other, World.cell?_setCell_same', c8]
    | 9, hu' => cases hu'; simp [World.cell?_setCell_other, World.cell?_setCell_same', c9]
    | 10, hu' => cases hu'; simp [World.cell?_setCell_other, World.cell?_setCell_same', c10]
    | 11, hu' => cases hu'; simp [World.cell?_setCell_other, World.cell?_setCell_same', c11]
    | 12, hu' => cases hu'; simp [World.cell?_setCell_other, World.cell?_setCell_same', c12]
    | j + 13, hu' =>
      have hlt := (List.getElem?_eq_some_iff.1 hu').1
      have hlen : r.cells.length = 13 := rfl
      omega
  · have hu' : (L[i].cells)[j]? = some u := by
      rw [List.getElem_set_ne (fun e => hik e.symm)] at hu
      exact hu
    have hj : j < 13 := (List.getElem?_eq_some_iff.1 hu').1
    have hne : ∀ x, x < 13 → o + i * 13 + j ≠ o + k * 13 + x := fun x hx e => hik (by omega)
    have := h.ce i hi' j u hu'
    rw [World.cell?_setCell_other _ _ _ _ (by intro e; injection e with _ e _; exact hne 12 (by omega) (by omega)), World.cell?_setCell_other _ _ _ _ (by intro e; injection e with _ e _; exact hne 11 (by omega) (by omega)), World.cell?_setCell_other _ _ _ _ (by intro e; injection e with _ e _; exact hne 10 (by omega) (by omega)), World.cell?_setCell_other _ _ _ _ (by intro e; injection e with _ e _; exact hne 9 (by omega) (by omega)), World.cell?_setCell_other _ _ _ _ (by intro e; injection e with _ e _; exact hne 8 (by omega) (by omega)), World.cell?_setCell_other _ _ _ _ (by intro e; injection e with _ e _; exact hne 7 (by omega) (by omega)), World.cell?_setCell_other _ _ _ _ (by intro e; injection e with _ e _; exact hne 6 (by omega) (by omega)), World.cell?_setCell_other _ _ _ _ (by intro e; injection e with _ e _; exact hne 5 (by omega) (by omega)), World.cell?_setCell_other _ _ _ _ (by intro e; injection e with _ e _; exact hne 4 (by omega) (by omega)), World.cell?_setCell_other _ _ _ _ (by intro e; injection e with _ e _; exact hne 3 (by omega) (by omega)), World.cell?_setCell_other _ _ _ _ (by intro e; injection e with _ e _; exact hne 2 (by omega) (by omega)), World.cell?_setCell_other _ _ _ _ (by intro e; injection e with _ e _; exact hne 1 (by omega) (by omega)), World.cell?_setCell_other _ _ _ _ (by intro e; injection e with _ e _; exact hne 0 (by omega) (by omega))]
    exact this
end Go.Proofs.Ytaimbkikiokenaa.Hi
