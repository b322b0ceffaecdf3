/- append of a slice that came in, nil or empty or not, onto a slice of the call's own; as a step of a region that draws its order, too. -/
import Derived.Test.YtnibmfijkbfaeaaSeg
namespace Go.Proofs.Ytnibmfijkbfaeaa
open Go.RowKit
set_option linter.unusedVariables false
section
variable {P : Program} {w w' : World} {e : TypeId} {v : Value} {n : Nat} {xs : List Value} {ob : Option Nat}
theorem run_append_none (t ty : TypeId) (i : TypeInfo) (ht : P.underlying t = some (.slice e)) (hi : P.info? e = some i) (h : Seg w e 1 v n xs ob) (A : Option Addr) (c : Nat) :
    (Builtin.append_ #[t, t] ty #[v, .slice A 0 c]).run P w = .ok v w := by
  obtain ⟨D, cap, rfl, hn, _⟩ := h.form
  cases A with
  | none => cases D <;> simp [Builtin.append_, run_underlying ht, sizeOf, typeInfo, hi, Builtin.lenOf, Builtin.firstCells, hn, storeCells]
  | some a =>
    have hf := run_firstCells_some (P := P) w i.size 0 a 0 c [] (by simp) (by simp)
    cases D <;> simp [Builtin.append_, run_underlying ht, sizeOf, typeInfo, hi, Builtin.lenOf, hf, hn, storeCells]
theorem run_append_lies (t ty : TypeId) (i : TypeInfo) (z : Value) (bytes : Nat) (ht : P.underlying t = some (.slice e)) (hi : P.info? e = some i) (hz : i.zero = some z)
    (hsize : i.size = 1) (hby : i.bytes = bytes) (hzs : z.cells.size = 1) (h : Seg w e 1 v n xs ob)
    (B : Nat) (A : Option Addr) (m c : Nat) (f : Nat → Value) (hl : Lies w B A m f) (h1 : ∀ k, (f k).oneCell' = true) (h63 : n + m ≤ maxLen) (hbytes : (n + m) * bytes ≤ 140737488355328) :
    ∃ v' w' ob', (Builtin.append_ #[t, t] ty #[v, .slice A m c]).run P w = .ok v' w' ∧ Seg w' e 1 v' (n + m) (xs ++ (List.range m).map f) ob' ∧ Turns w w' (fun k => ob = some k) ∧ (ob' = ob ∨ ∃ g, ob' = some g ∧ w.heap.size ≤ g) := by
  rcases Nat.eq_zero_or_pos m with h0 | h0
  · subst h0
    exact ⟨v, w, ob, run_append_none t ty i ht hi h A c, by simpa using h, Turns.refl _ _, .inl rfl⟩
  · obtain ⟨g, o, rfl, _, _⟩ := hl 0 h0
    refine run_append_seg t ty i z bytes ht hi hz hsize hby hzs (by omega) h ⟨g, o, none⟩ m c _ (by simp) (fun j u hj => ?_) (fun u hu => ?_) h0 h63 hbytes
    · rw [List.getElem?_map] at hj
      by_cases hjm : j < m
      · rw [List.getElem?_range hjm] at hj
        simp at hj
        subst hj
        obtain ⟨g', o', e1, _, hc⟩ := hl j hjm
        injection e1 with e1
        injection e1 with e1 e2
        subst e1 e2
        rw [Addr.add_lit]
        exact hc
      · rw [List.getElem?_eq_none (by simp; omega)] at hj
        cases hj
    · obtain ⟨k, _, rfl⟩ := List.mem_map.1 hu
      exact h1 k
theorem step_append_lies {ops : Array Oper} {o : Oper} {a : Act} {K : Act → World → Prop} {Q : Exit → Act → World → Prop} {E : Prop} (w : World) (hgd : o.guard = none) (s x : Operand) (t : TypeId)
    (hop : o.op = .call { callee := .builtin .append, args := #[s, x], argTypes := #[t, t] })
    (e : TypeId) (i : TypeInfo) (z : Value) (bytes : Nat) (ht : P.underlying t = some (.slice e)) (hi : P.info? e = some i) (hz : i.zero = some z)
    (hsize : i.size = 1) (hby : i.bytes = bytes) (hzs : z.cells.size = 1) (v : Value) (n : Nat) (xs : List Value) (ob : Option Nat) (hs : a.eval s = v) (h : Seg w e 1 v n xs ob)
    (B : Nat) (A : Option Addr) (m c : Nat) (f : Nat → Value) (hx : a.eval x = .slice A m c) (hl : Lies w B A m f) (h1 : ∀ k, (f k).oneCell' = true) (h63 : n + m ≤ maxLen) (hbytes : (n + m) * bytes ≤ 140737488355328)
    (hK : ∀ v' w' ob', Seg w' e 1 v' (n + m) (xs ++ (List.range m).map f) ob' → Turns w w' (fun k => ob = some k) → (ob' = ob ∨ ∃ g, ob' = some g ∧ w.heap.size ≤ g) → K (a.put o.dst v') w') :
    if Region.wanted o (yielded ops a.tmps) = true then Oper.wp P o a w K Q else E := by
  rw [if_pos (by simp [Region.wanted, hgd])]
  obtain ⟨v', w', ob', hrun, r1, r2, r3⟩ := run_append_lies (P := P) t o.type i z bytes ht hi hz hsize hby hzs h B A m c f hl h1 h63 hbytes
  unfold Oper.wp
  simp [execOp, hop, resolve, invoke, builtin, hs, hx, hrun, Result.andThen]
  exact hK v' w' ob' r1 r2 r3
end
end Go.Proofs.Ytnibmfijkbfaeaa
