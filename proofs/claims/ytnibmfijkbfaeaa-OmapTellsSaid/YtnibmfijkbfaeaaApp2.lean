/- append where there is room: the slice stays where it lies. A slice's head. What clear leaves. -/
import Derived.Test.YtnibmfijkbfaeaaSeg
import Derived.Lib.SliceRun
namespace Go.Proofs.Ytnibmfijkbfaeaa
open Go.RowKit
set_option linter.unusedVariables false
theorem below_turn {B : Nat} {w0 w w' : World} (h : Below B w0 w) (t : Turns w w' (fun k => (none : Option Nat) = some k)) (hB : B ≤ w.heap.size := by simp) : Below B w0 w' := t.below h hB (fun _ _ e => by cases e)
theorem seg_zero (w : World) (e : TypeId) (A : Option Addr) : Seg w e 1 (.slice A 0 0) 0 [] none := ⟨by simp, _, 0, rfl, Nat.le_refl _, by unfold maxLen; omega, .inl ⟨rfl, rfl, fun _ => trivial⟩⟩
section
variable {P : Program} {w w' : World} {e : TypeId} {size : Nat} {v : Value} {n cap : Nat} {xs : List Value} {ob : Option Nat}
theorem Seg.head {A : Option Addr} (h : Seg w e size (.slice A n cap) n xs ob) {k : Nat} (hk : k ≤ n) : Seg w e size (.slice A k cap) k (xs.take (k * size)) ob := by
  obtain ⟨h0, A', cap', hv, h1, h2, h3⟩ := h
  injection hv with e1 e2 e3
  subst e1 e3
  have hm : k * size ≤ n * size := Nat.mul_le_mul_right _ hk
  refine ⟨by rw [List.length_take, h0]; omega, _, _, rfl, by omega, h2, ?_⟩
  rcases h3 with h3 | ⟨g, o, cur, a1, a2, a3, a4, a5⟩
  · exact .inl h3
  · refine .inr ⟨g, o, cur, a1, a2, a3, a4, ?_⟩
    rw [← a5, List.take_take, Nat.min_eq_left hm]
theorem run_append_seg_room (t ty : TypeId) (i : TypeInfo) (ht : P.underlying t = some (.slice e)) (hi : P.info? e = some i) (hsize : i.size = size) {g o : Nat} (h : Seg w e size (.slice (some ⟨g, o, none⟩) n cap) n xs ob) (hc0 : 0 < cap)
    (a : Addr) (m c : Nat) (news : List Value) (hl : news.length = m * size) (hnews : ∀ j u, news[j]? = some u → w.cell? (a.add j) = some u) (h1 : ∀ u ∈ news, u.oneCell' = true) (hr : n + m ≤ cap) :
    ∃ w', (Builtin.append_ #[t, t] ty #[.slice (some ⟨g, o, none⟩) n cap, .slice (some a) m c]).run P w = .ok (.slice (some ⟨g, o, none⟩) (n + m) cap) w' ∧ Seg w' e size (.slice (some ⟨g, o, none⟩) (n + m) cap) (n + m) (xs ++ news) ob ∧ Turns w w' (fun k => ob = some k) := by
  obtain ⟨h0, A, cap', hv, hn, hc, h3⟩ := h
  injection hv with e1 _ e3
  subst e1 e3
  rcases h3 with ⟨h3, _⟩ | ⟨g', o', cur, e1, rfl, a3, a4, a5⟩
  · omega
  · injection e1 with e1
    injection e1 with e1 e2
    subst e1 e2
    subst hsize
    have hmul : n * i.size + m * i.size ≤ cap * i.size := by rw [← Nat.add_mul]; exact Nat.mul_le_mul_right _ hr
    have hrun := run_append_room_cells (P := P) w t ty e i ht hi g o n cap a m c news hl hnews h1 hr
      (fun j hj => by rw [cell_of_row w g _ cur e (0, 0) a3, Array.getElem?_eq_getElem (by omega)]; rfl) (fun j hj => frozen_of_row w g _ cur e a3)
    obtain ⟨cur', b1, b2, b3, b4⟩ := setCells_row e g news (o + n * i.size) w cur a3 (by omega)
    refine ⟨_, hrun, ⟨by rw [List.length_append, h0, hl, Nat.add_mul], _, cap, rfl, hr, hc, .inr ⟨g, o, cur', rfl, rfl, b1, by rw [b2]; exact a4, ?_⟩⟩, Turns.of_grown b4⟩
    rw [b3]
    have e1 : (List.take (o + n * i.size) cur.toList).length = o + n * i.size := by rw [List.length_take]; simp; omega
    rw [List.append_assoc, List.drop_append_of_le_length (by omega), List.drop_take, Nat.add_sub_cancel_left, a5, ← List.append_assoc, List.take_append_of_le_length (by rw [List.length_append, h0, hl, Nat.add_mul]; exact Nat.le_refl _),
      List.take_of_length_le (by rw [List.length_append, h0, hl, Nat.add_mul]; exact Nat.le_refl _)]
theorem wpList_append_room_seg {ops : Array Oper} {rest : List Oper} {o : Oper} {a : Act} {Q : Exit → Act → World → Prop} (hgd : o.guard = none) (s x : Operand) (t : TypeId)
    (hop : o.op = .call { callee := .builtin .append, args := #[s, x], argTypes := #[t, t] })
    (i : TypeInfo) (ht : P.underlying t = some (.slice e)) (hi : P.info? e = some i) (hsize : i.size = size) {g off : Nat} (hs : a.eval s = .slice (some ⟨g, off, none⟩) n cap) (h : Seg w e size (.slice (some ⟨g, off, none⟩) n cap) n xs ob) (hc0 : 0 < cap)
    (ad : Addr) (m c : Nat) (news : List Value) (hx : a.eval x = .slice (some ad) m c) (hl : news.length = m * size) (hnews : ∀ j u, news[j]? = some u → w.cell? (ad.add j) = some u) (h1 : ∀ u ∈ news, u.oneCell' = true) (hr : n + m ≤ cap)
    (hK : ∀ w', Seg w' e size (.slice (some ⟨g, off, none⟩) (n + m) cap) (n + m) (xs ++ news) ob → Turns w w' (fun k => ob = some k) → wpList P ops Q rest (a.put o.dst (.slice (some ⟨g, off, none⟩) (n + m) cap)) w') :
    wpList P ops Q (o :: rest) a w := by
  refine wpList_plain hgd fun K hK' => ?_
  obtain ⟨w', hrun, r2, r3⟩ := run_append_seg_room (P := P) t o.type i ht hi hsize h hc0 ad m c news hl hnews h1 hr
  unfold Oper.wp
  simp [execOp, hop, resolve, invoke, builtin, hs, hx, hrun, Result.andThen]
  exact hK' _ _ (hK w' r2 r3)
theorem wpList_append_none {ops : Array Oper} {rest : List Oper} {o : Oper} {a : Act} {Q : Exit → Act → World → Prop} (hgd : o.guard = none) (s x : Operand) (t : TypeId)
    (hop : o.op = .call { callee := .builtin .append, args := #[s, x], argTypes := #[t, t] })
    (i : TypeInfo) (ht : P.underlying t = some (.slice e)) (hi : P.info? e = some i) {g off : Nat} (hs : a.eval s = .slice (some ⟨g, off, none⟩) n cap) (hn : n ≤ cap)
    (A : Option Addr) (c : Nat) (hx : a.eval x = .slice A 0 c)
    (hK : wpList P ops Q rest (a.put o.dst (.slice (some ⟨g, off, none⟩) n cap)) w) : wpList P ops Q (o :: rest) a w := by
  refine wpList_plain hgd fun K hK' => ?_
  have hrun : (Builtin.append_ #[t, t] o.type #[.slice (some ⟨g, off, none⟩) n cap, .slice A 0 c]).run P w = .ok (.slice (some ⟨g, off, none⟩) n cap) w := by
    cases A with
    | none => simp [Builtin.append_, run_underlying ht, sizeOf, typeInfo, hi, Builtin.lenOf, Builtin.firstCells, hn, storeCells]
    | some a' =>
      have hf := run_firstCells_some (P := P) w i.size 0 a' 0 c [] (by simp) (by simp)
      simp [Builtin.append_, run_underlying ht, sizeOf, typeInfo, hi, Builtin.lenOf, hf, hn, storeCells]
  unfold Oper.wp
  simp [execOp, hop, resolve, invoke, builtin, hs, hx, hrun, Result.andThen]
  exact hK' _ _ hK
theorem Seg.spare {g o : Nat} (h : Seg w e 1 (.slice (some ⟨g, o, none⟩) n cap) n xs ob) {j : Nat} (hj : j < cap) : (∃ u, w.cell? ⟨g, o + j, none⟩ = some u) ∧ w.frozen? ⟨g, o + j, none⟩ = false := by
  obtain ⟨h0, A, cap', hv, hn, hc, h3⟩ := h
  injection hv with e1 _ e3
  subst e1 e3
  rcases h3 with ⟨h3, _⟩ | ⟨g', o', cur, e1, a2, a3, a4, a5⟩
  · omega
  · injection e1 with e1
    injection e1 with e1 e2
    subst e1 e2
    refine ⟨⟨cur[o + j]'(by omega), ?_⟩, frozen_of_row w g _ cur e a3⟩
    rw [cell_of_row w g (o + j) cur e (0, 0) a3, Array.getElem?_eq_getElem (by omega)]
/-- One cell behind a slice's things may be written. -/
theorem Seg.beyond {g o : Nat} (h : Seg w e 1 (.slice (some ⟨g, o, none⟩) n cap) n xs ob) (j : Nat) (hj : o + n ≤ j) (u : Value) : Seg (w.setCell ⟨g, j, none⟩ u) e 1 (.slice (some ⟨g, o, none⟩) n cap) n xs ob := by
  obtain ⟨h0, A, cap', hv, hn, hc, h3⟩ := h
  refine ⟨h0, A, cap', hv, hn, hc, ?_⟩
  rcases h3 with h3 | ⟨g', o', cur, e1, a2, a3, a4, a5⟩
  · exact .inl h3
  · injection hv with e2 _ e3
    rw [e1] at e2
    injection e2 with e2
    injection e2 with e4 e5
    subst e4 e5
    refine .inr ⟨g, o, _, e1, a2, Row.put a3 j u, by simpa using a4, ?_⟩
    rw [Array.toList_setIfInBounds, ← a5]
    apply List.ext_getElem?
    intro q
    rw [List.getElem?_take, List.getElem?_take]
    split
    · rw [List.getElem?_drop, List.getElem?_drop, List.getElem?_set_ne (by omega)]
    · rfl
end
end Go.Proofs.Ytnibmfijkbfaeaa
