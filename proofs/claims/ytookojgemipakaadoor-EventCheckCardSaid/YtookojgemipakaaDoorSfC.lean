/- What is wrong with types first, as the law reckons it. -/
import Derived.Test.YtookojgemipakaaDoorSfB
import Derived.Test.YtookojgemipakaaDoorSchC
import Derived.Deep.QuietTactic
namespace Go.Proofs.YtookojgemipakaaDoor.Sch
open Go.RowKit Go.Proofs.YtookojgemipakaaDoor
set_option linter.unusedVariables false
set_option maxRecDepth 100000
theorem idx_neg {l : List ByteArray} {nm : ByteArray} : idx l nm < 0 ↔ ∀ i (h : i < l.length), l[i].toList ≠ nm.toList := by
  constructor
  · intro h i hi
    unfold idx at h
    cases hf : l.findIdx? (fun x => x.toList == nm.toList) with
    | none =>
      rw [List.findIdx?_eq_none_iff] at hf
      have := hf l[i] (List.getElem_mem hi)
      simpa using this
    | some k =>
      rw [hf] at h
      dsimp only at h
      omega
  · intro h
    rw [idx_miss h]
    decide
theorem nof_take {l : List ByteArray} {nm : ByteArray} {k : Nat} (hk : k ≤ l.length) : NoF l nm k ↔ idx (l.take k) nm < 0 := by
  rw [idx_neg]
  constructor
  · intro h i hi
    have hl : i < l.length := by rw [List.length_take] at hi; omega
    rw [List.getElem_take]
    exact h i hl (by rw [List.length_take] at hi; omega)
  · intro h j hj hjk
    have := h j (by rw [List.length_take]; omega)
    rwa [List.getElem_take] at this
theorem map_take (fs : List Fld) (k : Nat) : (fs.take k).map Prod.fst = (fs.map Prod.fst).take k := by rw [List.map_take]
theorem map_takeT (ts : List Ty) (k : Nat) : (ts.take k).map Prod.fst = (ts.map Prod.fst).take k := by rw [List.map_take]
theorem not_nof {l : List ByteArray} {nm : ByteArray} {k i : Nat} (hi : i < l.length) (hik : i < k) (he : l[i].toList = nm.toList) : ¬ NoF l nm k := fun h => h i hi hik he
/-- How what is wrong is told. -/
def WrPost (w : World) (ts : List Ty) (e : Ending) (w' : World) : Prop := ∃ c, e = .returned (.int .i64 c) ∧ NewR ts c ∧ Below w.heap.size w w'
theorem wr_input {w w' : World} {ts : List Ty} {k : Nat} (hl : ts.length ≤ 16) (hk : k < ts.length) (hf : Fine ts k) (hm : ¬ MayT ts[k]) (hb : Below w.heap.size w w') : WrPost w ts (.returned (.int .i64 1)) w' := ⟨1, rfl, .inr (.inl ⟨hl, k, hk, hf, hm, rfl⟩), hb⟩
theorem wr_twice {w w' : World} {ts : List Ty} {k q : Nat} (hl : ts.length ≤ 16) (hk : k < ts.length) (hf : Fine ts k) (hm : MayT ts[k]) (hq : q < k) (he : (ts[q]'(by omega)).1.toList = ts[k].1.toList) (hb : Below w.heap.size w w') : WrPost w ts (.returned (.int .i64 4)) w' := by
  refine ⟨4, rfl, .inr (.inr (.inl ⟨hl, k, hk, hf, hm, ?_, rfl⟩)), hb⟩
  have hn : ¬ idx ((ts.take k).map Prod.fst) ts[k].1 < 0 := by
    rw [map_takeT, ← nof_take (by rw [List.length_map]; omega)]
    exact not_nof (i := q) (by rw [List.length_map]; omega) hq (by simpa using he)
  omega
theorem wr_ok {w w' : World} {ts : List Ty} (hl : ts.length ≤ 16) (hf : Fine ts ts.length) (hb : Below w.heap.size w w') : WrPost w ts (.returned (.int .i64 0)) w' := ⟨0, rfl, .inr (.inr (.inr ⟨hl, hf, rfl⟩)), hb⟩
theorem not_may_name {t : Ty} (h : nameB t.1.data.toList = false) : ¬ MayT t := fun m => by have := m.1; rw [h] at this; cases this
theorem not_may_field {t : Ty} {j : Nat} (hj : j < t.2.length) (h : ¬ OkF t.2 j hj) : ¬ MayT t := fun m => h (m.2.2 j hj)
theorem not_ok_twin {fs : List Fld} {j i : Nat} (hj : j < fs.length) (hi : i < j) (he : (fs[i]'(by omega)).1.toList = fs[j].1.toList) : ¬ OkF fs j hj := fun h => by
  have h3 := h.2.2
  rw [map_take, ← nof_take (by rw [List.length_map]; omega)] at h3
  exact not_nof (i := i) (by rw [List.length_map]; omega) hi (by simpa using he) h3
theorem ok_field {fs : List Fld} {j : Nat} (hj : j < fs.length) (h1 : nameB fs[j].1.data.toList = true) (h2 : kindB fs[j].2 = true) (h3 : NoF (fs.map Prod.fst) fs[j].1 j) : OkF fs j hj :=
  ⟨h1, h2, by rw [map_take, ← nof_take (by rw [List.length_map]; omega)]; exact h3⟩
theorem allF_succ {fs : List Fld} {j : Nat} (hj : j < fs.length) (ha : AllF fs j) (h : OkF fs j hj) : AllF fs (j + 1) := fun i hi hij => by
  by_cases e : i = j
  · subst e; exact h
  · exact ha i hi (by omega)
theorem fine_succ {ts : List Ty} {k : Nat} (hk : k < ts.length) (hf : Fine ts k) (hm : MayT ts[k]) (h : NoF (ts.map Prod.fst) ts[k].1 k) : Fine ts (k + 1) := fun i hi hik => by
  by_cases e : i = k
  · subst e; exact ⟨hm, by rw [map_takeT, ← nof_take (by rw [List.length_map]; omega)]; exact h⟩
  · exact hf i hi (by omega)
end Go.Proofs.YtookojgemipakaaDoor.Sch
