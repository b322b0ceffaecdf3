/- A block of one-cell things, told thing by thing. -/
import Derived.Test.YtmkofjdmjilpiaaSeg
import Derived.Deep.OwnRows
namespace Go.Proofs.Ytmkofjdmjilpiaa
open Go.RowKit
set_option linter.unusedVariables false

theorem below_drewN {B : Nat} {a w : World} (h : Below B a w) (n : Nat) : Below B a (w.drewN n) := ⟨h.os, h.tape, h.output, h.size, h.block⟩
/-- Block b has n cells, of type t; cell i holds f i. -/
def Tab (w : World) (b : Nat) (t : TypeId) (n : Nat) (f : Nat → Value) : Prop := ∃ cs : Array Value, Row w b t cs ∧ cs.size = n ∧ ∀ i, i < n → cs[i]? = some (f i)
section
variable {w w' : World} {b n : Nat} {t : TypeId} {f g : Nat → Value}
theorem Tab.made (w : World) (z : Value) (n : Nat) (t : TypeId) : Tab (w.alloc (.cells (madeCells #[z] n) t)) w.heap.size t n (fun _ => z) :=
  ⟨_, Row.made _ _ _, size_madeCells _ _, fun i hi => by simp [madeCells, hi, Nat.mod_one]⟩
theorem Tab.lt (h : Tab w b t n f) : b < w.heap.size := by obtain ⟨_, h, _⟩ := h; exact h.lt
theorem Tab.cell (h : Tab w b t n f) {i : Nat} (hi : i < n) : w.cell? ⟨b, i, none⟩ = some (f i) := by obtain ⟨cs, h, _, hc⟩ := h; exact (h.cell i).trans (hc i hi)
theorem Tab.free (h : Tab w b t n f) (i : Nat) : w.frozen? ⟨b, i, none⟩ = false := by obtain ⟨cs, h, _⟩ := h; exact h.free i
theorem Tab.alloc (h : Tab w b t n f) (o : Obj) : Tab (w.alloc o) b t n f := by obtain ⟨cs, h, r⟩ := h; exact ⟨cs, h.alloc o, r⟩
theorem Tab.drewN (h : Tab w b t n f) (k : Nat) : Tab (w.drewN k) b t n f := h
theorem Tab.below {B : Nat} (h : Tab w b t n f) (hb : Below B w w') (hB : b < B) : Tab w' b t n f := by obtain ⟨cs, h, r⟩ := h; exact ⟨cs, h.below hb hB, r⟩
theorem Tab.turns {S : Nat → Prop} (h : Tab w b t n f) (g : Turns w w' S) (hb : ¬ S b) : Tab w' b t n f := by obtain ⟨cs, h, r⟩ := h; exact ⟨cs, h.turns g hb, r⟩
theorem Tab.past (h : Tab w b t n f) {p : Addr} (hp : b ≠ p.block) (u : Value) : Tab (w.setCell p u) b t n f := by obtain ⟨cs, h, r⟩ := h; exact ⟨cs, h.past hp u, r⟩
theorem Tab.congr (h : Tab w b t n f) (hg : ∀ i, i < n → f i = g i) : Tab w b t n g := by
  obtain ⟨cs, h, r, hc⟩ := h; exact ⟨cs, h, r, fun i hi => by rw [hc i hi, hg i hi]⟩
theorem Tab.put (h : Tab w b t n f) (k : Nat) (u : Value) (hg : ∀ i, i < n → i ≠ k → f i = g i) (hk : k < n → u = g k) : Tab (w.setCell ⟨b, k, none⟩ u) b t n g := by
  obtain ⟨cs, h, r, hc⟩ := h
  refine ⟨_, h.put k u, by simpa using r, fun i hi => ?_⟩
  rw [Array.getElem?_setIfInBounds]
  by_cases e : k = i
  · subst e
    rw [if_pos rfl, if_pos (by omega), hk hi]
  · rw [if_neg e, hc i hi, hg i hi (fun h => e h.symm)]
end
end Go.Proofs.Ytmkofjdmjilpiaa
