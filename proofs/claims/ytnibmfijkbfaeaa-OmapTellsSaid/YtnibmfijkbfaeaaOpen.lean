/- Arguments that are slices, opened: one form for nil and for any other. -/
import Derived.Test.YtnibmfijkbfaeaaMem
import Derived.ChangeSlices
import Derived.SliceStrings
import Derived.WideShapes
namespace Go.Proofs.Ytnibmfijkbfaeaa
open Go.RowKit Go.ChangeShapes Go.WideShapes

section
variable {H : Type} {enc : TypeId × Value → H} {P : Program} {w : World} {base : Nat}
theorem lies_of {A : Addr} {n m : Nat} {v : Nat → Value} (hn : n ≤ m) (h : ∀ i, i < m → w.cell? (A.add i) = some (v i)) : Lies w w.heap.size (some A) n v := fun k hk => by
  have h0 := h k (by omega)
  have hb := World.block_lt_of_cell? w _ h0
  obtain ⟨g, o, sp⟩ := A
  have h1 := h 0 (by omega)
  have hsp : sp = none := by simpa [Addr.add] using World.cell?_spot h1
  subst hsp
  rw [add_plain] at h0
  refine ⟨g, o, rfl, ?_, h0⟩
  rw [add_plain] at hb
  exact hb
theorem open_ints_any {t e : TypeId} {v : Value} {d : DataW H} {p : List MemPlace} (ht : P.underlying t = some (.slice e)) (he : P.underlying e = some (.int .i64)) (hc : P.cellsOf e = 1)
    (hv : Value.okWide P w .any base t v) (h : DataW.Trod enc P w 0 (fun _ => true) true t v d p) :
    ∃ (A : Option Addr) (n c : Nat) (f : Nat → Int), v = .slice A n c ∧ n ≤ c ∧ c ≤ 9223372036854775807 ∧ (∀ k, -9223372036854775808 ≤ f k ∧ f k ≤ 9223372036854775807) ∧ Lies w w.heap.size A n (fun k => .int .i64 (f k)) := by
  obtain ⟨a, l, c, rfl⟩ := okWide_slice ht hv
  obtain ⟨fuel, hf⟩ := h
  rcases open_ints ht he hc hf with ⟨hcs, _⟩ | ⟨a', len, cap, zs, hcs, _, hl, hm, hz, _, hcell, hwz⟩
  · simp [Value.cells] at hcs
    obtain ⟨rfl, rfl, rfl⟩ := hcs
    exact ⟨_, _, _, fun _ => 0, rfl, Nat.le_refl _, by omega, fun _ => show (-9223372036854775808 : Int) ≤ 0 ∧ (0 : Int) ≤ 9223372036854775807 by omega, fun k hk => by omega⟩
  · simp [Value.cells] at hcs
    obtain ⟨rfl, rfl, rfl⟩ := hcs
    simp only [if_true] at hz
    exact ⟨_, _, _, fun k => zs.getD k 0, rfl, hl, by unfold maxLen at hm; omega, fun k => by have := range_i64 hwz k; simpa using this, lies_of (by omega) hcell⟩
theorem open_strings_any {t e : TypeId} {v : Value} {d : DataW H} {p : List MemPlace} (ht : P.underlying t = some (.slice e)) (he : P.underlying e = some .string) (hc : P.cellsOf e = 1)
    (hv : Value.okWide P w .any base t v) (h : DataW.Trod enc P w 0 (fun _ => true) true t v d p) :
    ∃ (A : Option Addr) (n c : Nat) (f : Nat → ByteArray), v = .slice A n c ∧ n ≤ c ∧ c ≤ 9223372036854775807 ∧ (∀ k, (f k).size ≤ 9223372036854775807) ∧ Lies w w.heap.size A n (fun k => .string (f k)) := by
  obtain ⟨a, l, c, rfl⟩ := okWide_slice ht hv
  obtain ⟨fuel, hf⟩ := h
  rcases open_strings ht he hc hf with ⟨hcs, _⟩ | ⟨a', len, cap, zs, hcs, _, hl, hm, hz, _, hcell, hwz⟩
  · simp [Value.cells] at hcs
    obtain ⟨rfl, rfl, rfl⟩ := hcs
    exact ⟨_, _, _, fun _ => ByteArray.empty, rfl, Nat.le_refl _, by omega, fun _ => (show (0 : Nat) ≤ 9223372036854775807 by omega), fun k hk => by omega⟩
  · simp [Value.cells] at hcs
    obtain ⟨rfl, rfl, rfl⟩ := hcs
    simp only [if_true] at hz
    refine ⟨_, _, _, fun k => zs.getD k ByteArray.empty, rfl, hl, by unfold maxLen at hm; omega, fun k => ?_, lies_of (by omega) hcell⟩
    by_cases hk : k < zs.length
    · have := hwz _ (List.getElem_mem hk)
      unfold maxLen at this
      simpa [List.getD, List.getElem?_eq_getElem hk] using this
    · simp [List.getD, List.getElem?_eq_none (Nat.le_of_not_lt hk)]
end
end Go.Proofs.Ytnibmfijkbfaeaa
