/- Calls as a map's keys; spans and what happened, as lists; a book. -/
import Derived.Test.YtaimbkikiokenaaTab
import Derived.Test.YtaimbkikiokenaaApp2
import Derived.Maps.OwnSet
import Derived.DeepKeys5
namespace Go.Proofs.Ytaimbkikiokenaa.Hi
open Go.RowKit Go.Proofs.Ytaimbkikiokenaa Go.Maps
set_option linter.unusedVariables false
set_option maxRecDepth 100000
theorem laidOut : laidOutB Try.prog = true := by kernel_rfl
theorem lawC0 : WideMaps.KeyLaw Try.prog 179 := deep_law_gate laidOut (Nat.le_of_ble_eq_true (by kernel_rfl)) (Nat.le_of_ble_eq_true (by kernel_rfl)) (by kernel_rfl) (by kernel_rfl)
theorem lawC : Keyed Try.prog 179 := Keyed.of_law lawC0
def I64 (a : Int) : Prop := -9223372036854775808 ≤ a ∧ a ≤ 9223372036854775807
def cv (a b : Int) : Value := .agg #[.int .i64 a, .int .i64 b]
theorem cv_some {a b : Int} (ha : I64 a) (hb : I64 b) : ∃ l, keyOf Try.prog 179 (cv a b) = some l := by
  have wa : (Lit.int .i64 a).wf = true := WalkArith.wf_i64 ha
  have wb : (Lit.int .i64 b).wf = true := WalkArith.wf_i64 hb
  have hk : Try.prog.keyType 179 = true := by kernel_rfl
  have hc : Try.prog.cellsOf 179 = 2 := by kernel_rfl
  have hci : Try.prog.cellsOf 3 = 1 := by kernel_rfl
  have hf : (cv a b).formed Try.prog 179 = true := by
    unfold cv
    simp [Value.formed, Try.underlying179, hc]
  obtain ⟨d, hd⟩ : ∃ d, Try.prog.types.size = d + 1 := ⟨Try.prog.types.size - 1, by kernel_rfl⟩
  unfold keyOf
  rw [Try.underlying179, hd]
  simp only [hk, hf]
  simp [Program.keyLits, Try.underlying179, Try.underlying3, cv, hc, hci, Value.cells, wa, wb]
/-- A span: a call of a client, where it begins, is done, tells, and what. -/
structure Sp where
  c : Int
  n : Int
  call : Int
  turn : Int
  reply : Int
  err : Int
  tick : Int
def rc (err tick : Int) : List Value := [.int .i64 err, .int .i64 tick, .int .i64 0, .int .i64 0, .int .i64 0, .int .i64 0, .int .i64 0, .int .i64 0]
def Sp.cells (s : Sp) : List Value := [.int .i64 s.c, .int .i64 s.n, .int .i64 s.call, .int .i64 s.turn, .int .i64 s.reply] ++ rc s.err s.tick
def scells (xs : List Sp) : List Value := xs.flatMap Sp.cells
theorem scells_len : ∀ xs : List Sp, (scells xs).length = xs.length * 13
  | [] => rfl
  | x :: r => by
    show (x.cells ++ scells r).length = _
    rw [List.length_append, scells_len r, List.length_cons]
    have : x.cells.length = 13 := rfl
    omega
theorem scells_get : ∀ (xs : List Sp) (i : Nat) (x : Sp) (j : Nat) (u : Value), xs[i]? = some x → x.cells[j]? = some u → (scells xs)[i * 13 + j]? = some u
  | [], i, x, j, u, h, _ => by simp at h
  | y :: r, 0, x, j, u, h, hj => by
    simp at h
    subst h
    show (y.cells ++ scells r)[0 * 13 + j]? = some u
    have : j < y.cells.length := (List.getElem?_eq_some_iff.1 hj).1
    rw [Nat.zero_mul, Nat.zero_add, List.getElem?_append_left this]
    exact hj
  | y :: r, i + 1, x, j, u, h, hj => by
    have ih := scells_get r i x j u (by simpa using h) hj
    have hl : y.cells.length = 13 := rfl
    show (y.cells ++ scells r)[(i + 1) * 13 + j]? = some u
    rw [List.getElem?_append_right (by omega), ← ih]
    congr 1
    omega
/-- A cell of a segment, written. -/
theorem Seg.put {w : World} {e : TypeId} {size n cap g o : Nat} {xs : List Value} {ob : Option Nat} (h : Seg w e size (.slice (some ⟨g, o, none⟩) n cap) n xs ob) (i : Nat) (hi : i < n * size) (u : Value) :
    Seg (w.setCell ⟨g, o + i, none⟩ u) e size (.slice (some ⟨g, o, none⟩) n cap) n (xs.set i u) ob := by
  obtain ⟨h0, A, c, hv, h1, h2, h3⟩ := h
  injection hv with e1 _ e3
  subst e1 e3
  rcases h3 with ⟨h3, _⟩ | ⟨g', o', cur, a1, a2, a3, a4, a5⟩
  · have : n = 0 := by omega
    subst this
    simp at hi
  · injection a1 with a1
    injection a1 with b1 b2
    subst b1 b2 a2
    have hr : Row w g e cur := a3
    have hle : n * size ≤ cap * size := Nat.mul_le_mul_right _ h1
    refine ⟨by rw [List.length_set]; exact h0, _, cap, rfl, h1, h2, .inr ⟨g, o, cur.setIfInBounds (o + i) u, rfl, rfl, hr.put (o + i) u, by simpa using a4, ?_⟩⟩
    rw [← a5]
    apply List.ext_getElem?
    intro j
    simp only [Array.toList_setIfInBounds, List.getElem?_take, List.getElem?_drop, List.getElem?_set]
    by_cases hj : j < n * size
    · rw [if_pos hj]
      by_cases hij : i = j
      · subst hij
        rw [if_pos rfl, if_pos rfl]
        have h1 : o + i < cur.size := by omega
        simp [h1, List.length_take, List.length_drop]
        omega
      · rw [if_neg (by omega), if_neg hij, if_pos hj]
    · rw [if_neg hj]
      by_cases hij : i = j
      · omega
      · rw [if_neg hij, if_neg hj]
end Go.Proofs.Ytaimbkikiokenaa.Hi
