/- Whether something is so of all kinds. -/
import Derived.Test.YtookojgemipakaaDoorTyD
namespace Go.Proofs.YtookojgemipakaaDoor.Ty
open Go.RowKit Go.Proofs.YtookojgemipakaaDoor Go.Proofs.YtookojgemipakaaDoor.Sch
set_option linter.unusedVariables false
set_option maxRecDepth 100000
/-- Numbers as they lie in memory. -/
def IL (w : World) (B : Nat) (v : Value) (L : List Int) : Prop :=
  ∃ A c, v = .slice A L.length c ∧ L.length ≤ c ∧ c ≤ 9223372036854775807 ∧ ∀ k (h : k < L.length), ∃ g o, A = some ⟨g, o, none⟩ ∧ g < B ∧ w.cell? ⟨g, o + k, none⟩ = some (.int .i64 L[k])
theorem IL.below {w w' : World} {B B' : Nat} {v : Value} {L : List Int} (h : IL w B v L) (hb : Below B w w') (hB : B ≤ B') : IL w' B' v L := by
  obtain ⟨A, c, rfl, h1, h2, h3⟩ := h
  refine ⟨A, c, rfl, h1, h2, fun k hk => ?_⟩
  obtain ⟨g, o, e, hg, hc⟩ := h3 k hk
  exact ⟨g, o, e, by omega, (hb.cell (p := ⟨g, o + k, none⟩) hg).trans hc⟩
theorem IL.zero (w : World) (B : Nat) : IL w B (.slice none 0 0) [] := ⟨none, 0, rfl, by simp, by omega, fun k hk => by simp at hk⟩
/-- Where the first thing stands of which something is so; -1: nowhere. -/
def fstI (f : Int → Bool) (L : List Int) : Int := match L.findIdx? f with
  | some k => k
  | none => -1
def NoneUp (f : Int → Bool) (L : List Int) (k : Nat) : Prop := ∀ j (h : j < L.length), j < k → f L[j] = false
theorem fst_at {f : Int → Bool} {L : List Int} {k : Nat} (hk : k < L.length) (h : f L[k] = true) (hn : NoneUp f L k) : fstI f L = k := by
  unfold fstI
  have : L.findIdx? f = some k := by
    rw [List.findIdx?_eq_some_iff_getElem]
    exact ⟨hk, h, fun j hj => by have := hn j (by omega) hj; simp [this]⟩
  rw [this]
theorem fst_no {f : Int → Bool} {L : List Int} (hn : NoneUp f L L.length) : fstI f L = -1 := by
  unfold fstI
  have : L.findIdx? f = none := by
    rw [List.findIdx?_eq_none_iff]
    intro x hx
    obtain ⟨j, hj, rfl⟩ := List.getElem_of_mem hx
    exact hn j hj hj
  rw [this]
theorem noneUp_succ {f : Int → Bool} {L : List Int} {k : Nat} (h : NoneUp f L k) (hk : k < L.length) (g : f L[k] = false) : NoneUp f L (k + 1) := fun j hj h1 => by
  by_cases e : j = k
  · subst e; exact g
  · exact h j hj (by omega)
theorem fst_all (f : Int → Bool) (L : List Int) : decide (fstI (fun x => !f x) L < 0) = L.all f := by
  unfold fstI
  cases h : L.findIdx? (fun x => !f x) with
  | none =>
    rw [List.findIdx?_eq_none_iff] at h
    have : L.all f = true := List.all_eq_true.2 fun x hx => by simpa using h x hx
    rw [this]
    decide
  | some k =>
    rw [List.findIdx?_eq_some_iff_getElem] at h
    obtain ⟨hk, h1, _⟩ := h
    have : L.all f = false := List.all_eq_false.2 ⟨L[k], List.getElem_mem hk, by simpa using h1⟩
    rw [this]
    have : ¬ ((k : Int) < 0) := by omega
    exact decide_eq_false this
end Go.Proofs.YtookojgemipakaaDoor.Ty
