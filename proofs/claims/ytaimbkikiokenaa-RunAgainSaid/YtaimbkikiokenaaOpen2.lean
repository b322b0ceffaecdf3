/- Slices whose elements are more than one cell each, opened: the cells of each element, and its reading. -/
import Derived.Test.YtaimbkikiokenaaOpen
import Derived.OpenShut
namespace Go.Proofs.Ytaimbkikiokenaa
open Go.RowKit Go.ChangeShapes Go.WideShapes
set_option linter.unusedVariables false

section
variable {H : Type} {enc : TypeId × Value → H} {P : Program} {w : World} {base : Nat}
/-- A slice, opened: element i lies at K cells from i * K on, and reads as what it is. -/
theorem trod_slice_rows {t e : TypeId} {spare : Nat → Bool} {held : Bool} {fuel : Nat} {cs : List Value} {x : DataW H × List MemPlace} (ht : P.underlying t = some (.slice e)) (hK : 0 < P.cellsOf e)
    (h : DataW.trod enc P w 0 spare held fuel t cs = some x) :
    ∃ (A : Option Addr) (n c : Nat), cs = [.slice A n c] ∧ n ≤ c ∧ c ≤ 9223372036854775807 ∧ ∀ i, i < n → ∃ g o es m y, A = some ⟨g, o, none⟩ ∧ g < w.heap.size ∧ es.length = P.cellsOf e ∧
      (∀ j u, es[j]? = some u → w.cell? ⟨g, o + i * P.cellsOf e + j, none⟩ = some u) ∧ DataW.trod enc P w 0 spare held m e es = some y := by
  rcases DataW.trod_slice ht h with ⟨hcs, _⟩ | ⟨a, len, cap, elems, rest, m, _, hcs, _, _, hl, hm, hlen, hel, _, _⟩
  · exact ⟨none, 0, 0, hcs, Nat.le_refl _, by omega, fun i hi => by omega⟩
  · refine ⟨some a, len, cap, hcs, hl, by unfold maxLen at hm; omega, fun i hi => ?_⟩
    have hE := hel i hi
    rw [List.getElem?_eq_getElem (by omega : i < elems.length), Option.bind_eq_some_iff] at hE
    obtain ⟨es, hes, hy⟩ := hE
    obtain ⟨_, hlen', hcell⟩ := World.cells?_some hes
    obtain ⟨g, o, sp⟩ := a
    have h0 := hcell 0 hK
    have hsp : sp = none := by
      have hE0 := hel 0 (by omega)
      rw [List.getElem?_eq_getElem (by omega : 0 < elems.length), Option.bind_eq_some_iff] at hE0
      obtain ⟨e0, he0, _⟩ := hE0
      obtain ⟨_, hlen0, hcell0⟩ := World.cells?_some he0
      have h0' := hcell0 0 hK
      rw [List.getElem?_eq_getElem (by omega : 0 < e0.length)] at h0'
      have := World.cell?_spot h0'
      simpa [Addr.add] using this
    subst hsp
    refine ⟨g, o, es, m, _, rfl, ?_, hlen', fun j u hj => ?_, hy⟩
    · rw [List.getElem?_eq_getElem (by omega : 0 < es.length)] at h0
      have := World.block_lt_of_cell? w _ h0
      rw [add_plain, add_plain] at this
      exact this
    · have hj' : j < P.cellsOf e := by rw [← hlen']; exact (List.getElem?_eq_some_iff.1 hj).1
      have := hcell j hj'
      rw [add_plain, add_plain, hj] at this
      exact this
/-- An array of integers, opened. -/
theorem trod_arr_ints {t e : TypeId} {k : IntKind} {n : Nat} {spare : Nat → Bool} {held : Bool} {fuel : Nat} {cs : List Value} {x : DataW H × List MemPlace} (ht : P.underlying t = some (.array n e)) (he : P.underlying e = some (.int k)) (hc : P.cellsOf e = 1)
    (h : DataW.trod enc P w 0 spare held fuel t cs = some x) : ∃ f : Nat → Int, ∀ j, j < n → cs[j]? = some (.int k (f j)) ∧ (Lit.int k (f j)).wf = true := by
  obtain ⟨xs, m, _, _, hl, hx, hf⟩ := DataW.trod_array ht h
  have each : ∀ j, j < n → ∃ z, cs[j]? = some (.int k z) ∧ (Lit.int k z).wf = true := by
    intro j hj
    have h1 := hf j hj
    rw [List.getElem?_eq_getElem (by omega : j < xs.length), hc, Nat.mul_one] at h1
    obtain ⟨z, hz, _, hw⟩ := DataW.trod_int he h1
    refine ⟨z, ?_, hw⟩
    have : ((cs.drop j).take 1)[0]? = some (.int k z) := by rw [hz]; rfl
    rw [List.getElem?_take] at this
    simpa using this
  refine ⟨fun j => if hj : j < n then Classical.choose (each j hj) else 0, fun j hj => ?_⟩
  simp only [dif_pos hj]
  exact Classical.choose_spec (each j hj)
/-- Pairs of integers lie in a slice. -/
def LiesTwo (w : World) (B : Nat) (A : Option Addr) (n : Nat) (v u : Nat → Value) : Prop := ∀ k, k < n → ∃ g o, A = some ⟨g, o, none⟩ ∧ g < B ∧ w.cell? ⟨g, o + k * 2, none⟩ = some (v k) ∧ w.cell? ⟨g, o + k * 2 + 1, none⟩ = some (u k)
theorem open_pairs_any {t e i : TypeId} {v : Value} {d : DataW H} {p : List MemPlace} (ht : P.underlying t = some (.slice e)) (he : P.underlying e = some (.array 2 i)) (hi : P.underlying i = some (.int .i64)) (hc : P.cellsOf e = 2) (hc1 : P.cellsOf i = 1)
    (hv : Value.okWide P w .any base t v) (h : DataW.Trod enc P w 0 (fun _ => true) true t v d p) :
    ∃ (A : Option Addr) (n c : Nat) (f g : Nat → Int), v = .slice A n c ∧ n ≤ c ∧ c ≤ 9223372036854775807 ∧ (∀ k, -9223372036854775808 ≤ f k ∧ f k ≤ 9223372036854775807) ∧ (∀ k, -9223372036854775808 ≤ g k ∧ g k ≤ 9223372036854775807) ∧
      LiesTwo w w.heap.size A n (fun k => .int .i64 (f k)) (fun k => .int .i64 (g k)) := by
  obtain ⟨a, l, c, rfl⟩ := okWide_slice ht hv
  obtain ⟨fuel, hf⟩ := h
  obtain ⟨A, n, c', hcs, h1, h2, hel⟩ := trod_slice_rows ht (by omega) hf
  simp [Value.cells] at hcs
  obtain ⟨rfl, rfl, rfl⟩ := hcs
  have each : ∀ k, k < l → ∃ (z y : Int), ((Lit.int .i64 z).wf = true ∧ (Lit.int .i64 y).wf = true) ∧ ∃ g o, a = some ⟨g, o, none⟩ ∧ g < w.heap.size ∧ w.cell? ⟨g, o + k * 2, none⟩ = some (.int .i64 z) ∧ w.cell? ⟨g, o + k * 2 + 1, none⟩ = some (.int .i64 y) := by
    intro k hk
    obtain ⟨g, o, es, m, y, hA, hg, hlen, hcell, hy⟩ := hel k hk
    obtain ⟨f, hfz⟩ := trod_arr_ints he hi hc1 hy
    rw [hc] at hcell
    exact ⟨f 0, f 1, ⟨(hfz 0 (by omega)).2, (hfz 1 (by omega)).2⟩, g, o, hA, hg, hcell 0 _ (hfz 0 (by omega)).1, hcell 1 _ (hfz 1 (by omega)).1⟩
  have bd : ∀ {z : Int}, (Lit.int .i64 z).wf = true → -9223372036854775808 ≤ z ∧ z ≤ 9223372036854775807 := fun h => bounds_i64 h
  refine ⟨a, l, c, fun k => if hk : k < l then Classical.choose (each k hk) else 0, fun k => if hk : k < l then Classical.choose (Classical.choose_spec (each k hk)) else 0, rfl, h1, h2, fun k => ?_, fun k => ?_, fun k hk => ?_⟩
  · by_cases hk : k < l
    · simp only [dif_pos hk]
      exact bd (Classical.choose_spec (Classical.choose_spec (each k hk))).1.1
    · simp only [dif_neg hk]
      omega
  · by_cases hk : k < l
    · simp only [dif_pos hk]
      exact bd (Classical.choose_spec (Classical.choose_spec (each k hk))).1.2
    · simp only [dif_neg hk]
      omega
  · simp only [dif_pos hk]
    exact (Classical.choose_spec (Classical.choose_spec (each k hk))).2
end
end Go.Proofs.Ytaimbkikiokenaa
