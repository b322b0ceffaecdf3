/- The law's own lists of stamps: the least, all but one, all in order. -/
import Derived.Test.YtbjkeclfcccilaaHpO
import Derived.BigQuiet
namespace Go.Proofs.Ytbjkeclfcccilaa.Hp
open Go.RowKit Go.Proofs.Ytbjkeclfcccilaa
set_option linter.unusedVariables false
set_option maxRecDepth 100000
theorem run_append_zero {P : Program} {w : World} {e : TypeId} {size : Nat} {v : Value} {n : Nat} {xs : List Value} {ob : Option Nat} (t ty : TypeId) (i : TypeInfo) (ht : P.underlying t = some (.slice e)) (hi : P.info? e = some i) (h : Seg w e size v n xs ob) (A : Option Addr) (c : Nat) :
    (Builtin.append_ #[t, t] ty #[v, .slice A 0 c]).run P w = .ok v w := by
  obtain ⟨D, cap, rfl, hn, _⟩ := h.form
  cases A with
  | none => cases D <;> simp [Builtin.append_, run_underlying ht, sizeOf, typeInfo, hi, Builtin.lenOf, Builtin.firstCells, hn, storeCells]
  | some a =>
    have hf := run_firstCells_some (P := P) w i.size 0 a 0 c [] (by simp) (by simp)
    cases D <;> simp [Builtin.append_, run_underlying ht, sizeOf, typeInfo, hi, Builtin.lenOf, hf, hn, storeCells]
theorem run_append_both {P : Program} {w : World} {e : TypeId} {size : Nat} {v v2 : Value} {n m : Nat} {xs ys : List Value} {ob ob2 : Option Nat} (t ty : TypeId) (i : TypeInfo) (z : Value) (bytes : Nat) (ht : P.underlying t = some (.slice e)) (hi : P.info? e = some i) (hz : i.zero = some z)
    (hsize : i.size = size) (hby : i.bytes = bytes) (hzs : z.cells.size = size) (hsz : 0 < size) (h : Seg w e size v n xs ob) (h2 : Seg w e size v2 m ys ob2) (h1 : ∀ u ∈ ys, u.oneCell' = true) (h63 : n + m ≤ maxLen) (hbytes : (n + m) * bytes ≤ 140737488355328) :
    ∃ v' w' ob', (Builtin.append_ #[t, t] ty #[v, v2]).run P w = .ok v' w' ∧ Seg w' e size v' (n + m) (xs ++ ys) ob' ∧ Turns w w' (fun k => ob = some k) ∧ (ob' = ob ∨ ∃ g, ob' = some g ∧ w.heap.size ≤ g) := by
  rcases Nat.eq_zero_or_pos m with rfl | h0
  · obtain ⟨A, c, rfl, _⟩ := h2.form
    have : ys = [] := List.eq_nil_of_length_eq_zero (by rw [h2.1, Nat.zero_mul])
    subst this
    exact ⟨v, w, ob, run_append_zero t ty i ht hi h A c, by simpa using h, Turns.refl _ _, .inl rfl⟩
  · obtain ⟨g, o, c, rfl, _, _, _, hc, _⟩ := h2.shape h0
    exact run_append_seg t ty i z bytes ht hi hz hsize hby hzs hsz h ⟨g, o, none⟩ m c ys h2.1 (fun j u hj => by rw [Addr.add_lit]; exact hc j u hj) h1 h0 h63 hbytes
theorem wpList_append_both {P : Program} {w : World} {e : TypeId} {size : Nat} {v v2 : Value} {n m : Nat} {xs ys : List Value} {ob ob2 : Option Nat} {ops : Array Oper} {rest : List Oper} {o : Oper} {a : Act} {Q : Exit → Act → World → Prop} (hgd : o.guard = none) (s x : Operand) (t : TypeId)
    (hop : o.op = .call { callee := .builtin .append, args := #[s, x], argTypes := #[t, t] }) (i : TypeInfo) (z : Value) (bytes : Nat) (ht : P.underlying t = some (.slice e)) (hi : P.info? e = some i) (hz : i.zero = some z)
    (hsize : i.size = size) (hby : i.bytes = bytes) (hzs : z.cells.size = size) (hsz : 0 < size) (hs : a.eval s = v) (h : Seg w e size v n xs ob) (hx : a.eval x = v2) (h2 : Seg w e size v2 m ys ob2) (h1 : ∀ u ∈ ys, u.oneCell' = true) (h63 : n + m ≤ maxLen) (hbytes : (n + m) * bytes ≤ 140737488355328)
    (hK : ∀ v' w' ob', Seg w' e size v' (n + m) (xs ++ ys) ob' → Turns w w' (fun k => ob = some k) → (ob' = ob ∨ ∃ g, ob' = some g ∧ w.heap.size ≤ g) → wpList P ops Q rest (a.put o.dst v') w') :
    wpList P ops Q (o :: rest) a w := by
  refine wpList_plain hgd fun K hK' => ?_
  obtain ⟨v', w', ob', hrun, r1, r2, r3⟩ := run_append_both (P := P) t o.type i z bytes ht hi hz hsize hby hzs hsz h h2 h1 h63 hbytes
  unfold Oper.wp
  simp [execOp, hop, resolve, invoke, builtin, hs, hx, hrun, Result.andThen]
  exact hK' _ _ (hK v' w' ob' r1 r2 r3)
/-- A list of stamps in memory. -/
def Sl (w : World) (v : Value) (ob : Option Nat) (m : List St) : Prop := Seg w 28 3 v m.length (hcells m) ob
theorem Sl.at {w : World} {v : Value} {ob : Option Nat} {xs : List St} (h : Sl w v ob xs) (hi : 0 < xs.length) : ∃ g o cap, v = .slice (some ⟨g, o, none⟩) xs.length cap ∧ ob = some g ∧ xs.length ≤ cap ∧ cap ≤ 9223372036854775807 ∧
    (∀ k, k < xs.length → w.cell? ⟨g, o + k * 3, none⟩ = some (.int .i64 (gt xs k).t) ∧ w.cell? ⟨g, o + k * 3 + 1, none⟩ = some (.int .i64 (gt xs k).q) ∧ w.cell? ⟨g, o + k * 3 + 2, none⟩ = some (.int .i64 (gt xs k).a)) := by
  obtain ⟨g, o, cap, e, hob, h1, h2, hc, hfz⟩ := h.shape hi
  refine ⟨g, o, cap, e, hob, h1, by unfold maxLen at h2; omega, fun k hk => ?_⟩
  have hx : xs[k]? = some (gt xs k) := by rw [gt_get _ _ hk]; exact List.getElem?_eq_getElem hk
  exact ⟨hc _ _ (hcells_get xs k _ 0 _ hx rfl), hc _ _ (hcells_get xs k _ 1 _ hx rfl), hc _ _ (hcells_get xs k _ 2 _ hx rfl)⟩
theorem hcells_one (xs : List St) : ∀ u ∈ hcells xs, u.oneCell' = true := by
  intro u hu
  obtain ⟨x, _, hx⟩ := List.mem_flatMap.1 hu
  simp [St.cells] at hx
  rcases hx with rfl | rfl | rfl <;> rfl
theorem hcells_append (xs ys : List St) : hcells (xs ++ ys) = hcells xs ++ hcells ys := by simp [hcells]
theorem hcells_drop : ∀ (n : Nat) (xs : List St), (hcells xs).drop (n * 3) = hcells (xs.drop n)
  | 0, xs => by simp
  | n + 1, [] => by simp [hcells]
  | n + 1, x :: r => by
    show (x.cells ++ hcells r).drop ((n + 1) * 3) = hcells (r.drop n)
    have hl : x.cells.length = 3 := rfl
    rw [← hcells_drop n r, show (n + 1) * 3 = x.cells.length + n * 3 from by omega, List.drop_length_add_append]
end Go.Proofs.Ytbjkeclfcccilaa.Hp
