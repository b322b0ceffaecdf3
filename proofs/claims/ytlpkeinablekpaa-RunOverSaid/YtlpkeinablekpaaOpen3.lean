/- Arrays of integers that came in, opened. -/
import Derived.Test.YtlpkeinablekpaaOpen2
namespace Go.Proofs.Ytlpkeinablekpaa
open Go.RowKit Go.ChangeShapes Go.WideShapes
set_option linter.unusedVariables false
section
variable {H : Type} {enc : TypeId × Value → H} {P : Program} {w : World} {base : Nat}
theorem okWide_arr {r : Reach} {n : Nat} {e t : TypeId} {v : Value} (ht : P.underlying t = some (.array n e)) (h : Value.okWide P w r base t v) : ∃ cs, v = .agg cs ∧ cs.size = P.cellsOf t := by
  simp only [Value.okWide, ht] at h
  obtain ⟨cs, h1, h2, _⟩ := h
  exact ⟨cs, h1, h2⟩
theorem open_arr {t e : TypeId} {n : Nat} {v : Value} {d : DataW H} {p : List MemPlace} (ht : P.underlying t = some (.array n e)) (he : P.underlying e = some (.int .i64)) (hc : P.cellsOf e = 1) (hn : P.cellsOf t = n)
    (hv : Value.okWide P w .any base t v) (h : DataW.Trod enc P w 0 (fun _ => true) true t v d p) :
    ∃ f : Nat → Int, (∀ k, -9223372036854775808 ≤ f k ∧ f k ≤ 9223372036854775807) ∧ ∃ cs, v = .agg cs ∧ cs.size = n ∧ ∀ k, k < n → cs[k]? = some (.int .i64 (f k)) := by
  obtain ⟨cs, rfl, hs⟩ := okWide_arr ht hv
  obtain ⟨fuel, hf⟩ := h
  obtain ⟨f, hfz⟩ := trod_arr_ints ht he hc hf
  refine ⟨fun k => if k < n then f k else 0, fun k => ?_, cs, rfl, hs.trans hn, fun k hk => ?_⟩
  · by_cases hk : k < n
    · simp only [if_pos hk]
      exact bounds_i64 (hfz k hk).2
    · simp only [if_neg hk]
      omega
  · simp only [if_pos hk]
    have := (hfz k hk).1
    simpa [Value.cells] using this
theorem open_arr6 {t e : TypeId} {v : Value} {d : DataW H} {p : List MemPlace} (ht : P.underlying t = some (.array 6 e)) (he : P.underlying e = some (.int .i64)) (hc : P.cellsOf e = 1) (hn : P.cellsOf t = 6)
    (hv : Value.okWide P w .any base t v) (h : DataW.Trod enc P w 0 (fun _ => true) true t v d p) :
    ∃ f : Nat → Int, v = .agg #[.int .i64 (f 0), .int .i64 (f 1), .int .i64 (f 2), .int .i64 (f 3), .int .i64 (f 4), .int .i64 (f 5)] ∧ ∀ k, -9223372036854775808 ≤ f k ∧ f k ≤ 9223372036854775807 := by
  obtain ⟨f, hb, cs, rfl, hs, hk⟩ := open_arr ht he hc hn hv h
  refine ⟨f, ?_, hb⟩
  congr 1
  apply Array.ext (by simpa using hs)
  intro i h1 h2
  have h3 := hk i (by omega)
  rw [Array.getElem?_eq_getElem h1] at h3
  injection h3 with h3
  rw [h3]
  rcases (show i = 0 ∨ i = 1 ∨ i = 2 ∨ i = 3 ∨ i = 4 ∨ i = 5 from by omega) with rfl | rfl | rfl | rfl | rfl | rfl <;> rfl
theorem open_arr3 {t e : TypeId} {v : Value} {d : DataW H} {p : List MemPlace} (ht : P.underlying t = some (.array 3 e)) (he : P.underlying e = some (.int .i64)) (hc : P.cellsOf e = 1) (hn : P.cellsOf t = 3)
    (hv : Value.okWide P w .any base t v) (h : DataW.Trod enc P w 0 (fun _ => true) true t v d p) :
    ∃ f : Nat → Int, v = .agg #[.int .i64 (f 0), .int .i64 (f 1), .int .i64 (f 2)] ∧ ∀ k, -9223372036854775808 ≤ f k ∧ f k ≤ 9223372036854775807 := by
  obtain ⟨f, hb, cs, rfl, hs, hk⟩ := open_arr ht he hc hn hv h
  refine ⟨f, ?_, hb⟩
  congr 1
  apply Array.ext (by simpa using hs)
  intro i h1 h2
  have h3 := hk i (by omega)
  rw [Array.getElem?_eq_getElem h1] at h3
  injection h3 with h3
  rw [h3]
  rcases (show i = 0 ∨ i = 1 ∨ i = 2 from by omega) with rfl | rfl | rfl <;> rfl
end
end Go.Proofs.Ytlpkeinablekpaa
