/- Lists of events as they are sorted. -/
import Derived.Test.YtookojgemipakaaDoorE6B
namespace Go.Proofs.YtookojgemipakaaDoor.E6
open Go.RowKit Go.Proofs.YtookojgemipakaaDoor Go.Proofs.YtookojgemipakaaDoor.Ev Go.Proofs.YtookojgemipakaaDoor.Evl Go.Proofs.YtookojgemipakaaDoor.E4
set_option linter.unusedVariables false
set_option maxRecDepth 100000
/-- An event, as its cells have it. -/
structure Rc where
  ty : ByteArray
  key : ByteArray
  t : Int
  q : Int
  A : Option Addr
  n : Nat
  c : Nat
def Rc.cells (r : Rc) : List Value := [.string r.ty, .string r.key, .int .i64 r.t, .int .i64 r.q, .slice r.A r.n r.c]
def Rc.bef (x y : Rc) : Bool := E6.bef x.t x.q y.t y.q
/-- Where a thing goes: behind all that are not behind it. -/
def insAt (x : Rc) (M : List Rc) : Nat → Nat
  | 0 => 0
  | j + 1 => match M[j]? with
    | some y => if x.bef y = true then insAt x M j else j + 1
    | none => j + 1
def putAt (x : Rc) (M : List Rc) (j : Nat) : List Rc := M.take j ++ x :: M.drop j
def insR (x : Rc) (M : List Rc) : List Rc := putAt x M (insAt x M M.length)
def isort (L : List Rc) : List Rc := L.foldl (fun M x => insR x M) []
theorem insAt_yes {x y : Rc} {M : List Rc} {j : Nat} (h : M[j]? = some y) (hb : x.bef y = true) : insAt x M (j + 1) = insAt x M j := by
  show (match M[j]? with | some y => if x.bef y = true then insAt x M j else j + 1 | none => j + 1) = _
  rw [h]
  dsimp only
  rw [if_pos hb]
theorem insAt_no {x y : Rc} {M : List Rc} {j : Nat} (h : M[j]? = some y) (hb : x.bef y = false) : insAt x M (j + 1) = j + 1 := by
  show (match M[j]? with | some y => if x.bef y = true then insAt x M j else j + 1 | none => j + 1) = _
  rw [h]
  dsimp only
  rw [if_neg (by simp [hb])]
theorem insR_len (x : Rc) (M : List Rc) : (insR x M).length = M.length + 1 := by
  unfold insR putAt
  simp
  omega
theorem isort_take {L : List Rc} {i : Nat} (h : i < L.length) : isort (L.take (i + 1)) = insR L[i] (isort (L.take i)) := by
  unfold isort
  rw [List.take_succ_eq_append_getElem h, List.foldl_append]
  rfl
theorem isort_len : ∀ (L : List Rc), (isort L).length = L.length := by
  have : ∀ (L M : List Rc), (L.foldl (fun M x => insR x M) M).length = M.length + L.length := by
    intro L
    induction L with
    | nil => intro M; simp
    | cons x r ih => intro M; rw [List.foldl_cons, ih, insR_len]; simp; omega
  intro L
  unfold isort
  rw [this]
  simp
theorem isort_one (L : List Rc) (h : 0 < L.length) : isort (L.take 1) = L.take 1 := by
  match L, h with
  | x :: r, _ => rfl
/-- Events as they lie in a block. -/
structure DL (w : World) (g o : Nat) (L : List Rc) : Prop where
  ce : ∀ k (h : k < L.length) j u, (L[k].cells)[j]? = some u → w.cell? ⟨g, o + k * 5 + j, none⟩ = some u
  fz : ∀ j, w.frozen? ⟨g, j, none⟩ = false
theorem DL.five {w : World} {g o : Nat} {L : List Rc} (h : DL w g o L) {k : Nat} (hk : k < L.length) {r : Rc} (hr : L[k] = r) : w.cell? ⟨g, o + k * 5, none⟩ = some (.string r.ty) ∧ w.cell? ⟨g, o + k * 5 + 1, none⟩ = some (.string r.key) ∧ w.cell? ⟨g, o + k * 5 + 2, none⟩ = some (.int .i64 r.t) ∧ w.cell? ⟨g, o + k * 5 + 3, none⟩ = some (.int .i64 r.q) ∧ w.cell? ⟨g, o + k * 5 + 4, none⟩ = some (.slice r.A r.n r.c) := by
  subst hr
  exact ⟨h.ce k hk 0 _ rfl, h.ce k hk 1 _ rfl, h.ce k hk 2 _ rfl, h.ce k hk 3 _ rfl, h.ce k hk 4 _ rfl⟩
def set5 (w : World) (g p : Nat) (u0 u1 u2 u3 u4 : Value) : World := ((((w.setCell ⟨g, p, none⟩ u0).setCell ⟨g, p + 1, none⟩ u1).setCell ⟨g, p + 2, none⟩ u2).setCell ⟨g, p + 3, none⟩ u3).setCell ⟨g, p + 4, none⟩ u4
theorem frozen_set (w : World) (p a : Addr) (u : Value) : (w.setCell p u).frozen? a = w.frozen? a := by simp
theorem DL.store {w : World} {g o : Nat} {L : List Rc} (h : DL w g o L) {k : Nat} (hk : k < L.length) (r : Rc) : DL (set5 w g (o + k * 5) (.string r.ty) (.string r.key) (.int .i64 r.t) (.int .i64 r.q) (.slice r.A r.n r.c)) g o (L.set k r) := by
  obtain ⟨c0, c1, c2, c3, c4⟩ := h.five hk rfl
  unfold set5
  refine ⟨fun i hi j u hu => ?_, fun j => by rw [frozen_set, frozen_set, frozen_set, frozen_set, frozen_set]; exact h.fz j⟩
  have hi' : i < L.length := by simpa using hi
  by_cases hik : i = k
  · subst hik
    have hu' : (r.cells)[j]? = some u := by simpa using hu
    match j, hu' with
    | 0, hu' => cases hu'; simp [World.cell?_setCell_other, World.cell?_setCell_same', c0]
    | 1, hu' => cases hu'; simp [World.cell?_setCell_other, World.cell?_setCell_same', c1]
    | 2, hu' => cases hu'; simp [World.cell?_setCell_other, World.cell?_setCell_same', c2]
    | 3, hu' => cases hu'; simp [World.cell?_setCell_other, World.cell?_setCell_same', c3]
    | 4, hu' => cases hu'; simp [World.cell?_setCell_other, World.cell?_setCell_same', c4]
    | j + 5, hu' => simp [Rc.cells] at hu'
  · have hu' : (L[i].cells)[j]? = some u := by
      rw [List.getElem_set_ne (fun e => hik e.symm)] at hu
      exact hu
    have hj : j < 5 := (List.getElem?_eq_some_iff.1 hu').1
    have hne : ∀ x, x < 5 → o + i * 5 + j ≠ o + k * 5 + x := fun x hx e => hik (by omega)
    have := h.ce i hi' j u hu'
    rw [World.cell?_setCell_other _ _ _ _ (by intro e; injection e with _ e _; exact hne 4 (by omega) (by omega)), World.cell?_setCell_other _ _ _ _ (by intro e; injection e with _ e _; exact hne 3 (by omega) (by omega)), World.cell?_setCell_other _ _ _ _ (by intro e; injection e with _ e _; exact hne 2 (by omega) (by omega)), World.cell?_setCell_other _ _ _ _ (by intro e; injection e with _ e _; exact hne 1 (by omega) (by omega)), World.cell?_setCell_other _ _ _ _ (by intro e; injection e with _ e _; exact hne 0 (by omega) (by omega))]
    exact this
end Go.Proofs.YtookojgemipakaaDoor.E6
