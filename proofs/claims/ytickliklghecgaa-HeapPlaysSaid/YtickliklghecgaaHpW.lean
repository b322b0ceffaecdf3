/- The law HeapPlays: what it holds. -/
import Derived.Test.YtickliklghecgaaHpV
import Derived.Test.YtickliklghecgaaBits
namespace Go.Proofs.Ytickliklghecgaa.Hp
open Go.RowKit Go.Proofs.Ytickliklghecgaa Go.Proofs.Ytickliklghecgaa.Mut
set_option linter.unusedVariables false
set_option maxRecDepth 100000
/-- The heap and the plain list, in memory. -/
structure Pm (w wx : World) (hB : Nat) (v : Value) (ob : Option Nat) (xs : List St) (vm : Value) (om : Option Nat) (m : List St) : Prop where
  fr : Fresh w wx hB v ob xs
  sl : Sl wx vm om m
  mo : ∀ g, om = some g → w.heap.size ≤ g ∧ g ≠ hB ∧ ob ≠ some g
/-- What both hold: the same things. -/
structure Pq (i : Nat) (xs m : List St) : Prop where
  ord : Hord xs
  prm : xs.Perm m
  len : m.length ≤ i
theorem Pm.call {w w1 w2 : World} {hB : Nat} {v vm : Value} {ob om : Option Nat} {xs m : List St} (h : Pm w w1 hB v ob xs vm om m) (hb : Below w1.heap.size w1 w2) : Pm w w2 hB v ob xs vm om m :=
  ⟨h.fr.call hb, h.sl.turns (Turns.of_below hb) (fun _ _ x => x), h.mo⟩
theorem Pm.heap {w w1 w2 : World} {hB : Nat} {v v' vm : Value} {ob ob' om : Option Nat} {xs ys m : List St} (h : Pm w w1 hB v ob xs vm om m) (hm : Hm w2 hB v' ob' ys) (ht : Turns w1 w2 (fun k => k = hB ∨ ob = some k)) (hn : ob' = ob ∨ ∃ g, ob' = some g ∧ w1.heap.size ≤ g) :
    Pm w w2 hB v' ob' ys vm om m := by
  refine ⟨h.fr.turn ⟨hm, ht, hn⟩, h.sl.turns ht (fun g hg e => e.elim (h.mo g hg).2.1 (h.mo g hg).2.2), fun g hg => ⟨(h.mo g hg).1, (h.mo g hg).2.1, fun e => ?_⟩⟩
  rcases hn with h1 | ⟨g', h1, h2⟩
  · exact (h.mo g hg).2.2 (by rw [← h1]; exact e)
  · rw [h1] at e; injection e with e; subst e; have := h.sl.lt _ hg; omega
theorem Pm.list {w w1 w2 : World} {hB : Nat} {v vm vm' : Value} {ob om om' : Option Nat} {xs m m' : List St} (h : Pm w w1 hB v ob xs vm om m) (hl : Ml w1 w2 vm' om' m') : Pm w w2 hB v ob xs vm' om' m' :=
  ⟨h.fr.call hl.be, hl.sl, fun g hg => by
    have h1 := hl.own g hg
    have h2 := h.fr.be.size
    have h3 := h.fr.hm.row.lt
    exact ⟨by omega, by omega, fun e => by have := h.fr.hm.seg.lt g e; omega⟩⟩
theorem Pm.app {w w1 w2 : World} {hB : Nat} {v vm : Value} {ob om om' : Option Nat} {xs m : List St} {x : St} {A : Option Addr} {cap : Nat} (h : Pm w w1 hB v ob xs vm om m)
    (hs : Seg w2 30 3 (.slice A (m.length + 1) cap) (m.length + 1) (hcells m ++ x.cells) om') (ht : Turns w1 w2 (fun k => om = some k)) (ho : om' = om ∨ ∃ g, om' = some g ∧ w1.heap.size ≤ g) :
    Pm w w2 hB v ob xs (.slice A (m.length + 1) cap) om' (m ++ [x]) := by
  have hgb : ∀ g, om' = some g → w.heap.size ≤ g ∧ g ≠ hB ∧ ob ≠ some g := fun g hg => by
    rcases ho with h1 | ⟨g', h1, h2⟩
    · exact h.mo g (by rw [← h1]; exact hg)
    · rw [h1] at hg
      injection hg with hg
      subst hg
      have e1 := h.fr.be.size
      have e2 := h.fr.hm.row.lt
      exact ⟨by omega, by omega, fun e => by have := h.fr.hm.seg.lt _ e; omega⟩
  refine ⟨⟨⟨h.fr.hm.row.turns ht (fun e => (h.mo _ e).2.1 rfl), h.fr.hm.seg.turns ht (fun g hg e => (h.mo g e).2.2 hg)⟩, h.fr.b1, h.fr.o1, ht.below h.fr.be h.fr.be.size (fun k hk e => by have := (h.mo k e).1; omega)⟩, ?_, hgb⟩
  have e : (m ++ [x]).length = m.length + 1 := by simp
  unfold Sl
  rw [e, hcells_append]
  simpa [hcells] using hs
theorem Pq.push {i : Nat} {xs m : List St} (h : Pq i xs m) (x : St) : Pq (i + 1) (rise (xs ++ [x]) xs.length) (m ++ [x]) :=
  ⟨push_ord h.ord x, (rise_perm _ _ (by simp)).trans (h.prm.append_right [x]), by have := h.len; simp; omega⟩
theorem Pq.pop {i : Nat} {xs m : List St} (h : Pq i xs m) (h0 : 0 < m.length) : Pq i (drop1 xs) (m.eraseIdx (lstI m)) ∧ gt xs 0 = gt m (lstI m) := by
  obtain ⟨e1, e2⟩ := root_sel h.ord h.prm h0
  exact ⟨⟨drop1_ord h.ord, e2, Nat.le_trans (List.length_eraseIdx_le _ _) h.len⟩, e1⟩
theorem Pq.pops {i : Nat} : ∀ (k : Nat) {xs m : List St}, Pq i xs m → k ≤ m.length → Pq i (Hp.pops k xs) (rest k m)
  | 0, _, _, h, _ => h
  | k + 1, xs, m, h, hk => by
    have h1 := (h.pop (by omega)).1
    have := (lstI_spec (m := m) (by omega)).1
    exact h1.pops k (by rw [List.length_eraseIdx, if_pos this]; omega)
theorem Pq.more {i j : Nat} {xs m : List St} (h : Pq i xs m) (hij : i ≤ j) : Pq j xs m := ⟨h.ord, h.prm, Nat.le_trans h.len hij⟩
/-- A state of the game: the value of the plain list, in a world. -/
def Gm (w wx : World) (hB i : Nat) (vm : Value) : Prop := ∃ v ob xs om m, Pm w wx hB v ob xs vm om m ∧ Pq i xs m
theorem quiet_left {P : Program} {f : FuncId} {args : Array Value} {w : World} {n : Nat} {v : Value} (h : Calls P f args (w.drewN n) fun e w' => e = .returned v ∧ w.drewN n = w') : Calls P f args (w.drewN n) fun e w'' => e = .returned v ∧ ∃ m, w'' = w.drewN m :=
  h.mono fun _ _ ⟨he, hw⟩ => ⟨he, n, hw.symm⟩
end Go.Proofs.Ytickliklghecgaa.Hp
