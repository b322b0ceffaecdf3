/- A heap in memory: which of two is ahead; how many there are; two of them change places. -/
import Derived.Test.YtbhbjblliegliaaHpB
import Derived.Test.YtbhbjblliegliaaSeg
import Derived.Deep.RegionHeld3
namespace Go.Proofs.Ytbhbjblliegliaa.Hp
open Go.RowKit Go.Proofs.Ytbhbjblliegliaa
set_option linter.unusedVariables false
set_option maxRecDepth 100000
def St.agg (x : St) : Value := .agg #[.int .i64 x.t, .int .i64 x.q, .int .i64 x.a]
def St.cells (x : St) : List Value := [.int .i64 x.t, .int .i64 x.q, .int .i64 x.a]
def LessPost (x y : St) (w : World) (e : Ending) (w' : World) : Prop := e = .returned (.bool (decide (lt x y))) ∧ Below w.heap.size w w'
theorem less_mk {x y : St} {w w' : World} {b : Bool} (h : decide (lt x y) = b) (hb : Below w.heap.size w w') : LessPost x y w (.returned (.bool b)) w' := ⟨by rw [h], hb⟩
theorem less_any (x y : St) (w : World) : Calls Try.prog 59 #[.agg #[.int .i64 x.t, .int .i64 x.q, .int .i64 x.a], .agg #[.int .i64 y.t, .int .i64 y.q, .int .i64 y.a]] w (LessPost x y w) := by
  obtain ⟨xt, xq, xa⟩ := x
  obtain ⟨yt, yq, ya⟩ := y
  by_cases h1 : xt = yt
  · subst h1
    by_cases h2 : xq = yq
    · subst h2
      have HL : Hid (decide (lt ⟨xt, xq, xa⟩ ⟨xt, xq, ya⟩) = decide (xa < ya)) := Lib.hid (by congr 1; unfold lt; simp)
      go_enter Try.func59, Try.ntmps59
      go_wp2
      go_ret
      exact less_mk HL.out (by go_grown)
    · have hb2 : (xq == yq) = false := by simpa using h2
      have HL : Hid (decide (lt ⟨xt, xq, xa⟩ ⟨xt, yq, ya⟩) = decide (xq < yq)) := Lib.hid (by congr 1; unfold lt; simp [h2])
      clear h2
      go_enter Try.func59, Try.ntmps59
      go_wp2
      go_ret
      exact less_mk HL.out (by go_grown)
  · have hb1 : (xt == yt) = false := by simpa using h1
    have HL : Hid (decide (lt ⟨xt, xq, xa⟩ ⟨yt, yq, ya⟩) = decide (xt < yt)) := Lib.hid (by congr 1; unfold lt; simp [h1])
    clear h1
    go_enter Try.func59, Try.ntmps59
    go_wp2
    go_ret
    exact less_mk HL.out (by go_grown)
def hcells (xs : List St) : List Value := xs.flatMap St.cells
theorem hcells_len : ∀ xs : List St, (hcells xs).length = xs.length * 3
  | [] => rfl
  | x :: r => by
    show (x.cells ++ hcells r).length = _
    rw [List.length_append, hcells_len r, List.length_cons]
    have : x.cells.length = 3 := rfl
    omega
theorem hcells_get : ∀ (xs : List St) (i : Nat) (x : St) (j : Nat) (u : Value), xs[i]? = some x → x.cells[j]? = some u → (hcells xs)[i * 3 + j]? = some u
  | [], i, x, j, u, h, _ => by simp at h
  | y :: r, 0, x, j, u, h, hj => by
    simp at h
    subst h
    show (y.cells ++ hcells r)[0 * 3 + j]? = some u
    have : j < y.cells.length := (List.getElem?_eq_some_iff.1 hj).1
    rw [Nat.zero_mul, Nat.zero_add, List.getElem?_append_left this]
    exact hj
  | y :: r, i + 1, x, j, u, h, hj => by
    have ih := hcells_get r i x j u (by simpa using h) hj
    have hl : y.cells.length = 3 := rfl
    show (y.cells ++ hcells r)[(i + 1) * 3 + j]? = some u
    rw [List.getElem?_append_right (by omega), ← ih]
    congr 1
    omega
end Go.Proofs.Ytbhbjblliegliaa.Hp
