/- Values in memory; whether all are of a kind; parts of numbers and of truths. -/
import Derived.Test.YtookojgemipakaaDoorEvlA
namespace Go.Proofs.YtookojgemipakaaDoor.Evl
open Go.RowKit Go.Proofs.YtookojgemipakaaDoor Go.Proofs.YtookojgemipakaaDoor.Ev Go.Proofs.YtookojgemipakaaDoor.Sch Go.Proofs.YtookojgemipakaaDoor.Ty
set_option linter.unusedVariables false
set_option maxRecDepth 100000
/-- Values as they lie in memory. -/
def VL (w : World) (B : Nat) (v : Value) (L : List VV) : Prop :=
  ∃ A c, v = .slice A L.length c ∧ L.length ≤ c ∧ c ≤ 9223372036854775807 ∧ ∀ k (h : k < L.length), ∃ g o, A = some ⟨g, o, none⟩ ∧ g < B ∧ ∀ j u, (L[k].cells)[j]? = some u → w.cell? ⟨g, o + k * 4 + j, none⟩ = some u
theorem VL.below {w w' : World} {B B' : Nat} {v : Value} {L : List VV} (h : VL w B v L) (hb : Below B w w') (hB : B ≤ B') : VL w' B' v L := by
  obtain ⟨A, c, rfl, h1, h2, h3⟩ := h
  refine ⟨A, c, rfl, h1, h2, fun k hk => ?_⟩
  obtain ⟨g, o, e, hg, hc⟩ := h3 k hk
  exact ⟨g, o, e, by omega, fun j u hj => (hb.cell (p := ⟨g, o + k * 4 + j, none⟩) hg).trans (hc j u hj)⟩
theorem VL.zero (w : World) (B : Nat) : VL w B (.slice none 0 0) [] := ⟨none, 0, rfl, by simp, by omega, fun k hk => by simp at hk⟩
end Go.Proofs.YtookojgemipakaaDoor.Evl
