/- Nodes that came in, opened. -/
import Derived.Test.YtlpkeinablekpaaDoorEvO
import Derived.Test.YtlpkeinablekpaaDoorTyD
namespace Go.Proofs.YtlpkeinablekpaaDoor.Evl
open Go.RowKit Go.Proofs.YtlpkeinablekpaaDoor Go.Proofs.YtlpkeinablekpaaDoor.Ev Go.Proofs.YtlpkeinablekpaaDoor.Sch Go.Proofs.YtlpkeinablekpaaDoor.Ty Go.ChangeShapes Go.WideShapes
set_option linter.unusedVariables false
section
variable {H : Type} {enc : TypeId × Value → H} {w : World} {spare : Nat → Bool} {held : Bool} {fuel : Nat} {cs : List Value} {x : DataW H × List MemPlace}
theorem list7 {l : List Value} (h : l.length = 7) : ∃ a b c d e f g, l = [a, b, c, d, e, f, g] := by
  match l, h with
  | [a, b, c, d, e, f, g], _ => exact ⟨a, b, c, d, e, f, g, rfl⟩
theorem open_node (h : DataW.trod enc Tryd.prog w 0 spare held fuel 25 cs = some x) : ∃ n : Nd, cs = n.cells ∧ (-9223372036854775808 ≤ n.i ∧ n.i ≤ 9223372036854775807) := by
  obtain ⟨a, b, c, d, e, f, g, rfl⟩ := list7 (trod_struct_len (n := 7) (by kernel_rfl) (by kernel_rfl) h)
  obtain ⟨_, _, h0⟩ := trod_field (ft := 3) 0 (off := 0) (by kernel_rfl) h
  obtain ⟨_, _, h1⟩ := trod_field (ft := 23) 1 (off := 1) (by kernel_rfl) h
  obtain ⟨_, _, h2⟩ := trod_field (ft := 9) 2 (off := 5) (by kernel_rfl) h
  obtain ⟨_, _, h3⟩ := trod_field (ft := 9) 3 (off := 6) (by kernel_rfl) h
  rw [show Tryd.prog.cellsOf 3 = 1 by kernel_rfl] at h0
  rw [show Tryd.prog.cellsOf 23 = 4 by kernel_rfl] at h1
  rw [show Tryd.prog.cellsOf 9 = 1 by kernel_rfl] at h2 h3
  obtain ⟨k, rfl, wk⟩ := one_int Tryd.underlying3 h0
  obtain ⟨v, hv, wi, _, _⟩ := open_value h1
  obtain ⟨s, rfl, ws⟩ := one_str Tryd.underlying9 h2
  obtain ⟨t, rfl, wt⟩ := one_str Tryd.underlying9 h3
  obtain ⟨vk, vi, vs, vb⟩ := v
  injection hv with e0 hv
  injection hv with e1 hv
  injection hv with e2 hv
  injection hv with e3 hv
  subst e0 e1 e2 e3
  exact ⟨⟨k, vk, vi, vs, vb, s, t⟩, rfl, wi⟩
theorem open_nodes {v : Value} (h : DataW.trod enc Tryd.prog w 0 spare held fuel 29 [v] = some x) :
    ∃ l : List Nd, Ns w w.heap.size v l ∧ ∀ n ∈ l, -9223372036854775808 ≤ n.i ∧ n.i ≤ 9223372036854775807 := by
  obtain ⟨A, n, c, rfl, h1, h2, hk⟩ := one_slice (e := 25) Tryd.underlying29 (by rw [show Tryd.prog.cellsOf 25 = 7 by kernel_rfl]; omega) h
  rw [show Tryd.prog.cellsOf 25 = 7 by kernel_rfl] at hk
  have each : ∀ k, k < n → ∃ nd : Nd, (-9223372036854775808 ≤ nd.i ∧ nd.i ≤ 9223372036854775807) ∧ ∃ g o, A = some ⟨g, o, none⟩ ∧ g < w.heap.size ∧ ∀ j u, (nd.cells)[j]? = some u → w.cell? ⟨g, o + k * 7 + j, none⟩ = some u := fun k hkn => by
    obtain ⟨g, o, es, m, y, hA, hg, hl, hc, ht⟩ := hk k hkn
    obtain ⟨nd, rfl, hb⟩ := open_node ht
    exact ⟨nd, hb, g, o, hA, hg, hc⟩
  let F : Nat → Nd := fun k => if h : k < n then Classical.choose (each k h) else ⟨0, 0, 0, ByteArray.empty, false, ByteArray.empty, ByteArray.empty⟩
  have hlen : ((List.range n).map F).length = n := by simp
  refine ⟨(List.range n).map F, ⟨A, c, by rw [hlen], by rw [hlen]; exact h1, h2, fun k hkl => ?_⟩, fun nd hnd => ?_⟩
  · have hkn : k < n := by rw [hlen] at hkl; exact hkl
    have e : ((List.range n).map F)[k] = Classical.choose (each k hkn) := by simp [F, hkn]
    rw [e]
    exact (Classical.choose_spec (each k hkn)).2
  · rw [List.mem_map] at hnd
    obtain ⟨k, hkr, rfl⟩ := hnd
    have hkn : k < n := List.mem_range.1 hkr
    simp only [F, dif_pos hkn]
    exact (Classical.choose_spec (each k hkn)).1
end
end Go.Proofs.YtlpkeinablekpaaDoor.Evl
