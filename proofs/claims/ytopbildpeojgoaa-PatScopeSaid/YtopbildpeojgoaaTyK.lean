/- What three variables stand for; awake of layer 13. -/
import Derived.Test.YtopbildpeojgoaaTyJ
namespace Go.Proofs.Ytopbildpeojgoaa.Ty
open Go.RowKit Go.Proofs.Ytopbildpeojgoaa Go.Proofs.Ytopbildpeojgoaa.Sch
set_option linter.unusedVariables false
set_option maxRecDepth 100000
def sc0 : List Bd := [(⟨#[97]⟩, [⟨#[65]⟩]), (⟨#[98]⟩, [⟨#[65]⟩]), (⟨#[99]⟩, [⟨#[65]⟩])]
def ScPost (w : World) (e : Ending) (w' : World) : Prop := ∃ v, e = .returned v ∧ Bs w' w'.heap.size v sc0 ∧ Below w.heap.size w w'
/-- Parts in a row of cells. -/
def ncells (l : List Nd) : List Value := l.flatMap Nd.cells
theorem ncells_len : ∀ l : List Nd, (ncells l).length = l.length * 7
  | [] => rfl
  | x :: r => by
    show (x.cells ++ ncells r).length = _
    rw [List.length_append, ncells_len r, List.length_cons]
    have : x.cells.length = 7 := rfl
    omega
theorem ncells_get : ∀ (l : List Nd) (i : Nat) (h : i < l.length) (j : Nat) (u : Value), (l[i].cells)[j]? = some u → (ncells l)[i * 7 + j]? = some u
  | y :: r, 0, h, j, u, hj => by
    show (y.cells ++ ncells r)[0 * 7 + j]? = some u
    have : j < y.cells.length := (List.getElem?_eq_some_iff.1 hj).1
    rw [Nat.zero_mul, Nat.zero_add, List.getElem?_append_left this]
    exact hj
  | y :: r, i + 1, h, j, u, hj => by
    have ih := ncells_get r i (by simpa using h) j u (by simpa using hj)
    have hl : y.cells.length = 7 := rfl
    show (y.cells ++ ncells r)[(i + 1) * 7 + j]? = some u
    rw [List.getElem?_append_right (by omega), ← ih]
    congr 1
    omega
theorem ns_row {w : World} {g : Nat} {cs : Array Value} {l : List Nd} {n : Nat} (h : Row w g 86 cs) (hc : cs.toList = ncells l) (hn : l.length = n) (hn9 : n ≤ 1000) : Ns w w.heap.size (.slice (some ⟨g, 0, none⟩) n n) l := by
  subst hn
  exact ⟨_, _, rfl, Nat.le_refl _, by omega, fun k hk => ⟨g, 0, rfl, h.lt, fun j u hj => by
    have h1 := ncells_get l k hk j u hj
    rw [← hc] at h1
    rw [h.cell, Nat.zero_add]
    simpa using h1⟩⟩
theorem ns_seg {w : World} {A : Option Addr} {n c : Nat} {l : List Nd} {ob : Option Nat} (h : Seg w 86 7 (.slice A n c) n (ncells l) ob) (hn : l.length = n) : Ns w w.heap.size (.slice A n c) l := by
  obtain ⟨_, c', e, h1, h2⟩ := h.form
  injection e with e1 e2 e3
  subst e1 e3
  subst hn
  refine ⟨_, _, rfl, h1, by unfold maxLen at h2; omega, fun k hk => ?_⟩
  obtain ⟨g, o, cap, e, ho, _, _, hc, _⟩ := h.shape (by omega)
  injection e with e1 e2 e3
  subst e1
  exact ⟨g, o, rfl, h.lt g ho, fun j u hj => by rw [Nat.add_assoc]; exact hc _ _ (ncells_get l k hk j u hj)⟩
def awL : List Nd := [⟨2, 0, 0, ⟨#[]⟩, false, ⟨#[97]⟩, ⟨#[120]⟩⟩, ⟨1, 1, 3, ⟨#[]⟩, false, ⟨#[]⟩, ⟨#[]⟩⟩, ⟨11, 0, 0, ⟨#[]⟩, false, ⟨#[]⟩, ⟨#[]⟩⟩]
theorem awL_good : Good awL := by
  refine ⟨by decide, fun k hk => ?_, fun k hk => ?_, by decide⟩
  · match k, hk with
    | 0, _ => exact .field rfl rfl
    | 1, _ => exact .const (.num 3 rfl)
    | 2, _ => exact .op 11 (by decide) (by decide)
  · match k, hk with
    | 0, _ => show partsI 2 ≤ _; decide
    | 1, _ => show partsI 1 ≤ _; decide
    | 2, _ => show partsI 11 ≤ _; decide
end Go.Proofs.Ytopbildpeojgoaa.Ty
