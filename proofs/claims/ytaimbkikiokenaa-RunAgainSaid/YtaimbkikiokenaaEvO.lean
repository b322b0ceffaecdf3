/- Events that came in, opened. -/
import Derived.Test.YtaimbkikiokenaaEvA
import Derived.Test.YtaimbkikiokenaaOpen4
namespace Go.Proofs.Ytaimbkikiokenaa.Ev
open Go.RowKit Go.Proofs.Ytaimbkikiokenaa Go.ChangeShapes Go.WideShapes
set_option linter.unusedVariables false
section
variable {H : Type} {enc : TypeId × Value → H} {w : World} {spare : Nat → Bool} {held : Bool} {fuel : Nat} {cs : List Value} {x : DataW H × List MemPlace}
theorem open_value (h : DataW.trod enc Try.prog w 0 spare held fuel 92 cs = some x) :
    ∃ v : VV, cs = v.cells ∧ (-9223372036854775808 ≤ v.i ∧ v.i ≤ 9223372036854775807) ∧ (-9223372036854775808 ≤ v.k ∧ v.k ≤ 9223372036854775807) ∧ v.s.size ≤ 9223372036854775807 := by
  obtain ⟨a, b, c, d, rfl⟩ := list4 (trod_struct_len (n := 4) (by kernel_rfl) (by kernel_rfl) h)
  obtain ⟨_, _, h0⟩ := trod_field (ft := 3) 0 (off := 0) (by kernel_rfl) h
  obtain ⟨_, _, h1⟩ := trod_field (ft := 2) 1 (off := 1) (by kernel_rfl) h
  obtain ⟨_, _, h2⟩ := trod_field (ft := 9) 2 (off := 2) (by kernel_rfl) h
  obtain ⟨_, _, h3⟩ := trod_field (ft := 4) 3 (off := 3) (by kernel_rfl) h
  rw [show Try.prog.cellsOf 3 = 1 by kernel_rfl] at h0
  rw [show Try.prog.cellsOf 2 = 1 by kernel_rfl] at h1
  rw [show Try.prog.cellsOf 9 = 1 by kernel_rfl] at h2
  rw [show Try.prog.cellsOf 4 = 1 by kernel_rfl] at h3
  obtain ⟨k, rfl, wk⟩ := one_int Try.underlying3 h0
  obtain ⟨i, rfl, wi⟩ := one_int Try.underlying2 h1
  obtain ⟨s, rfl, ws⟩ := one_str Try.underlying9 h2
  obtain ⟨b, rfl⟩ := one_bool Try.underlying4 h3
  exact ⟨⟨k, i, s, b⟩, rfl, bounds_i64 wi, bounds_i64 wk, ws⟩
theorem open_values {v : Value} (h : DataW.trod enc Try.prog w 0 spare held fuel 56 [v] = some x) :
    ∃ A n c f, v = .slice A n c ∧ n ≤ c ∧ c ≤ 9223372036854775807 ∧ VLies w w.heap.size A n f ∧ ∀ k, -9223372036854775808 ≤ (f k).i ∧ (f k).i ≤ 9223372036854775807 := by
  obtain ⟨A, n, c, rfl, h1, h2, hk⟩ := one_slice (e := 92) Try.underlying56 (by rw [show Try.prog.cellsOf 92 = 4 by kernel_rfl]; omega) h
  rw [show Try.prog.cellsOf 92 = 4 by kernel_rfl] at hk
  have each : ∀ k, k < n → ∃ v : VV, (-9223372036854775808 ≤ v.i ∧ v.i ≤ 9223372036854775807) ∧ ∃ g o, A = some ⟨g, o, none⟩ ∧ g < w.heap.size ∧ w.cell? ⟨g, o + k * 4, none⟩ = some (.int .i64 v.k) ∧ w.cell? ⟨g, o + k * 4 + 1, none⟩ = some (.int .i64 v.i) ∧ w.cell? ⟨g, o + k * 4 + 2, none⟩ = some (.string v.s) ∧ w.cell? ⟨g, o + k * 4 + 3, none⟩ = some (.bool v.b) := fun k hkn => by
    obtain ⟨g, o, es, m, y, hA, hg, hl, hc, ht⟩ := hk k hkn
    obtain ⟨v, rfl, hb, _, _⟩ := open_value ht
    exact ⟨v, hb, g, o, hA, hg, hc 0 _ rfl, hc 1 _ rfl, hc 2 _ rfl, hc 3 _ rfl⟩
  refine ⟨A, n, c, fun k => if h : k < n then Classical.choose (each k h) else ⟨0, 0, ByteArray.empty, false⟩, rfl, h1, h2, fun k hkn => ?_, fun k => ?_⟩
  · simp only [dif_pos hkn]
    exact (Classical.choose_spec (each k hkn)).2
  · by_cases hkn : k < n
    · simp only [dif_pos hkn]
      exact (Classical.choose_spec (each k hkn)).1
    · simp only [dif_neg hkn]
      omega
theorem open_event (h : DataW.trod enc Try.prog w 0 spare held fuel 58 cs = some x) : ∃ e : EI, cs = e.cells ∧ EIOk w w.heap.size e := by
  obtain ⟨a, b, c, d, e, rfl⟩ := list5 (trod_struct_len (n := 5) (by kernel_rfl) (by kernel_rfl) h)
  obtain ⟨_, _, h0⟩ := trod_field (ft := 9) 0 (off := 0) (by kernel_rfl) h
  obtain ⟨_, _, h1⟩ := trod_field (ft := 9) 1 (off := 1) (by kernel_rfl) h
  obtain ⟨_, _, h2⟩ := trod_field (ft := 2) 2 (off := 2) (by kernel_rfl) h
  obtain ⟨_, _, h3⟩ := trod_field (ft := 2) 3 (off := 3) (by kernel_rfl) h
  obtain ⟨_, _, h4⟩ := trod_field (ft := 56) 4 (off := 4) (by kernel_rfl) h
  rw [show Try.prog.cellsOf 9 = 1 by kernel_rfl] at h0 h1
  rw [show Try.prog.cellsOf 2 = 1 by kernel_rfl] at h2 h3
  rw [show Try.prog.cellsOf 56 = 1 by kernel_rfl] at h4
  obtain ⟨ty, rfl, s0⟩ := one_str Try.underlying9 h0
  obtain ⟨key, rfl, s1⟩ := one_str Try.underlying9 h1
  obtain ⟨t, rfl, w2⟩ := one_int Try.underlying2 h2
  obtain ⟨q, rfl, w3⟩ := one_int Try.underlying2 h3
  obtain ⟨A, n, cc, f, rfl, l1, l2, hv, hb⟩ := open_values h4
  exact ⟨⟨ty, key, t, q, A, n, cc, f⟩, rfl, ⟨l1, l2⟩, ⟨s0, s1⟩, bounds_i64 w2, bounds_i64 w3, hb, hv⟩
end
end Go.Proofs.Ytaimbkikiokenaa.Ev
