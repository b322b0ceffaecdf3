/- event.Sort of up to 20 events that were made. -/
import Derived.Test.YtookojgemipakaaDoorE6E
import Derived.Test.YtookojgemipakaaDoorE6F
import Derived.Test.YtookojgemipakaaDoorOrEv
import Derived.Test.YtookojgemipakaaDoorApp
namespace Go.Proofs.YtookojgemipakaaDoor.E6
open Go.RowKit Go.Proofs.YtookojgemipakaaDoor Go.Proofs.YtookojgemipakaaDoor.Ev Go.Proofs.YtookojgemipakaaDoor.Evl Go.Proofs.YtookojgemipakaaDoor.E4
set_option linter.unusedVariables false
set_option maxRecDepth 100000
theorem flat_get {α : Type} (f : α → List Value) (m : Nat) (hf : ∀ x, (f x).length = m) : ∀ (L : List α) (k : Nat) (h : k < L.length) (j : Nat) (u : Value), (f L[k])[j]? = some u → (L.flatMap f)[k * m + j]? = some u
  | [], _, h, _, _, _ => by simp at h
  | x :: r, 0, _, j, u, hj => by
    have hj0 : (f x)[j]? = some u := hj
    have hjl : j < (f x).length := (List.getElem?_eq_some_iff.1 hj0).1
    rw [List.flatMap_cons, Nat.zero_mul, Nat.zero_add, List.getElem?_append_left hjl]
    exact hj0
  | x :: r, k + 1, h, j, u, hj => by
    rw [List.flatMap_cons, List.getElem?_append_right (by rw [hf, Nat.succ_mul]; omega), hf, show (k + 1) * m + j - m = k * m + j by rw [Nat.succ_mul]; omega]
    exact flat_get f m hf r k (by simp at h; omega) j u hj
theorem seg_row {w : World} {e : TypeId} {size n : Nat} {v : Value} {xs : List Value} {g : Nat} (h : Seg w e size v n xs (some g)) : ∃ c, Row w g e c := by
  obtain ⟨_, A, cap, _, _, _, ⟨_, h2, _⟩ | ⟨g', o, cur, _, h2, h3, _⟩⟩ := h
  · cases h2
  · cases h2; exact ⟨_, h3⟩
theorem row_ne {w : World} {b b' : Nat} {t t' : TypeId} {c c' : Array Value} (h : Row w b t c) (g : Row w b' t' c') (hn : t ≠ t') : b ≠ b' := by
  intro e
  subst e
  unfold Row at h g
  rw [h] at g
  cases g
  exact hn rfl
theorem seg_ne {w : World} {s s' n n' : Nat} {v v' : Value} {xs xs' : List Value} {g b : Nat} (h : Seg w 24 s v n xs (some g)) (h' : Seg w 33 s' v' n' xs' (some b)) : b ≠ g := by
  obtain ⟨_, r⟩ := seg_row h
  obtain ⟨_, r'⟩ := seg_row h'
  exact row_ne r' r (by decide)
/-- A segment that lies somewhere. -/
theorem seg_some {w : World} {e : TypeId} {size n : Nat} {v : Value} {xs : List Value} {g : Nat} (h : Seg w e size v n xs (some g)) : ∃ o c, v = .slice (some ⟨g, o, none⟩) n c ∧ n ≤ c ∧ c ≤ maxLen ∧ (∀ (j : Nat) u, xs[j]? = some u → w.cell? ⟨g, o + j, none⟩ = some u) ∧ ∀ j, w.frozen? ⟨g, j, none⟩ = false := by
  have hl := h.lt g rfl
  obtain ⟨hx, A, cap, rfl, h1, h2, h3⟩ := id h
  rcases h3 with ⟨_, h3, _⟩ | ⟨g', o, cur, rfl, h4, h5, h6, h7⟩
  · cases h3
  · cases h4
    refine ⟨o, cap, rfl, h1, h2, fun j u hj => ?_, fun j => frozen_of_row w g j cur e h5⟩
    rcases Nat.eq_zero_or_pos n with hn | hn
    · subst hn
      have : xs = [] := List.length_eq_zero_iff.1 (by simpa using hx)
      subst this
      simp at hj
    · obtain ⟨g2, o2, cap2, e2, e3, _, _, hc, _⟩ := h.shape hn
      cases e3
      injection e2 with e2 _ _
      cases e2
      exact hc j u hj
theorem em_len (e : EM) : e.cells.length = 5 := rfl
theorem rc_len (r : Rc) : r.cells.length = 5 := rfl
/-- An event that was made, by its contents. -/
def conE (e : EM) : Ec := ⟨e.ty, e.key, e.t, e.q, e.vs⟩
theorem EVS.elem {w0 w : World} {v : Value} {es : List EM} (h : EVS w0 w v es) {k : Nat} (hk : k < es.length) {e : EM} (he : es[k] = e) : ∃ g o c, v = .slice (some ⟨g, o, none⟩) es.length c ∧ es.length ≤ c ∧ c ≤ 9223372036854775807 ∧ g < w.heap.size ∧
    (w.cell? ⟨g, o + k * 5, none⟩ = some (.string e.ty) ∧ w.cell? ⟨g, o + k * 5 + 1, none⟩ = some (.string e.key) ∧ w.cell? ⟨g, o + k * 5 + 2, none⟩ = some (.int .i64 e.t) ∧ w.cell? ⟨g, o + k * 5 + 3, none⟩ = some (.int .i64 e.q) ∧ w.cell? ⟨g, o + k * 5 + 4, none⟩ = some (.slice (some ⟨e.vb, 0, none⟩) e.vs.length e.vs.length)) ∧
    Row w e.vb 33 (vcells e.vs).toArray ∧ (2 ≤ e.vs.length ∧ e.vs.length ≤ 3) := by
  subst he
  obtain ⟨ob, hs, _, h3⟩ := h.sg
  obtain ⟨g, o, c, rfl, rfl, h1, h2, hc, _⟩ := hs.shape (by omega)
  have hok := h3 es[k] (List.getElem_mem hk)
  have at' : ∀ j u, (es[k].cells)[j]? = some u → w.cell? ⟨g, o + k * 5 + j, none⟩ = some u := fun j u hj => by
    rw [Nat.add_assoc]
    exact hc (k * 5 + j) u (flat_get EM.cells 5 em_len es k hk j u hj)
  exact ⟨g, o, c, rfl, h1, by unfold maxLen at h2; omega, hs.lt g rfl, ⟨at' 0 _ rfl, at' 1 _ rfl, at' 2 _ rfl, at' 3 _ rfl, at' 4 _ rfl⟩, hok.row, hok.ln⟩
/-- A copy, and what it is a copy of. -/
def Cp (w : World) (r : Rc) (c : Ec) : Prop := (r.ty = c.ty ∧ r.key = c.key ∧ r.t = c.t ∧ r.q = c.q) ∧ ∃ b, Seg w 33 4 (.slice r.A r.n r.c) c.vs.length (vcells c.vs) (some b)
theorem Cp.turns {w w' : World} {r : Rc} {c : Ec} {g : Nat} {s n : Nat} {v : Value} {xs : List Value} (h : Cp w r c) (hg : Seg w 24 s v n xs (some g)) (t : Turns w w' (fun k => k = g)) : Cp w' r c := by
  obtain ⟨h1, b, hb⟩ := h
  have hne := seg_ne hg hb
  exact ⟨h1, b, hb.turns t (fun b' e e2 => by cases e; exact hne e2)⟩
theorem Cp.call {w w' : World} {r : Rc} {c : Ec} (h : Cp w r c) (hb : Below w.heap.size w w') : Cp w' r c := by
  obtain ⟨h1, b, hs⟩ := h
  exact ⟨h1, b, hs.turns (Turns.of_below hb) (fun _ _ x => x)⟩
theorem Cp.vl {w : World} {r : Rc} {c : Ec} (h : Cp w r c) : VL w w.heap.size (.slice r.A r.n r.c) c.vs := by
  obtain ⟨_, b, hs⟩ := h
  exact vl_seg hs
theorem cp_bef {w : World} {x y : Rc} {a c : Ec} (h : Cp w x a) (g : Cp w y c) : x.bef y = a.bef c := by
  unfold Rc.bef Ec.bef
  rw [h.1.2.2.1, h.1.2.2.2, g.1.2.2.1, g.1.2.2.2]
end Go.Proofs.YtookojgemipakaaDoor.E6
