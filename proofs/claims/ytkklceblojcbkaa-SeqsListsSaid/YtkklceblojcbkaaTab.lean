/- A block of one-cell things, told thing by thing. -/
import Derived.Test.YtkklceblojcbkaaSeg
import Derived.Deep.OwnRows
namespace Go.Proofs.Ytkklceblojcbkaa
open Go.RowKit
set_option linter.unusedVariables false

theorem i64_of {k : IntKind} {a b : Int} (h : a = b) : Value.int k a = .int k b := by rw [h]
theorem below_drewN {B : Nat} {a w : World} (h : Below B a w) (n : Nat) : Below B a (w.drewN n) := ⟨h.os, h.tape, h.output, h.size, h.block⟩
/-- 'make' of things of one cell each (a struct of one field, too): so many times the zero value's cell. -/
theorem run_make_cell {P : Program} (t e : TypeId) (z z0 : Value) (bytes : Nat) (ht : P.underlying t = some (.slice e)) (hinfo : (P.info? e).map (fun i => (i.zero, i.size, i.bytes)) = some (some z, 1, bytes)) (hz1 : z.cells = #[z0])
    (kl kc : IntKind) (n : Nat) (hbytes : bytes * n ≤ 281474976710656) (h63 : n ≤ 9223372036854775807) (w : World) :
    (Instr.makeSlice t (.int kl (n : Int)) (.int kc (n : Int))).run P w = .ok (.slice (some ⟨w.heap.size, 0, none⟩) n n) (w.alloc (.cells (madeCells #[z0] n) e)) := by
  obtain ⟨i, hi, hz, hs, hb⟩ := info_parts hinfo
  have hb' : (i.bytes : Int) * (n : Int) ≤ 281474976710656 := by
    have h : ((i.bytes * n : Nat) : Int) ≤ 281474976710656 := by rw [hb]; omega
    rwa [Int.natCast_mul] at h
  have hr := run_make (P := P) w t e i z ht hi hz kl kc n n (by omega) (Int.le_refl _) hb' (by omega)
  simp only [Int.toNat_natCast, hs, Nat.mul_one, hz1] at hr
  exact hr
theorem turns_after {w w1 w2 : World} {S : Nat → Prop} (hb : Below w.heap.size w w1) (t : Turns w1 w2 S) : Turns w w2 S := ((Turns.of_below hb).mono (S' := S) (fun _ _ h => h.elim)).trans t (fun _ _ h => h)
theorem turns_one {w w' : World} {b : Nat} (h : w.grownBy w' (some b)) : Turns w w' (fun k => k = b) := (Turns.of_grown h).mono (fun k _ e => by injection e with e; exact e.symm)
theorem bcell {W W1 : World} (hb : Below W.heap.size W W1) : (∀ b o, b < W.heap.size → W1.cell? ⟨b, o, none⟩ = W.cell? ⟨b, o, none⟩) ∧ (∀ b o, b < W.heap.size → W1.frozen? ⟨b, o, none⟩ = W.frozen? ⟨b, o, none⟩) :=
  ⟨fun b o h => hb.cell (p := ⟨b, o, none⟩) h, fun b o h => hb.frozen (p := ⟨b, o, none⟩) h⟩
theorem Row.c0 {w : World} {b : Nat} {t : TypeId} {v : Value} (h : Row w b t #[v]) : w.cell? ⟨b, 0, none⟩ = some v := h.cell 0
theorem Row.f0 {w : World} {b : Nat} {t : TypeId} {cs : Array Value} (h : Row w b t cs) : w.frozen? ⟨b, 0, none⟩ = false := h.free 0

/-- What a call has made so far: nothing that was there has turned; these blocks (the newest first) are rows of cells of its own. -/
structure Own (w0 w : World) (L : List (Nat × TypeId × Array Value)) : Prop where
  be : Below w0.heap.size w0 w
  rows : ∀ x ∈ L, Row w x.1 x.2.1 x.2.2 ∧ w0.heap.size ≤ x.1
  apart : L.Pairwise (fun x y => y.1 < x.1)
section
variable {w0 w w1 : World} {L : List (Nat × TypeId × Array Value)}
theorem Own.start (w : World) : Own w w [] := ⟨Below.refl _ _, (fun _ h => by cases h), List.Pairwise.nil⟩
theorem Own.size (h : Own w0 w L) : w0.heap.size ≤ w.heap.size := h.be.size
theorem Own.row (h : Own w0 w L) (i : Nat) {b : Nat} {t : TypeId} {cs : Array Value} (hi : L[i]? = some (b, t, cs)) : Row w b t cs := (h.rows _ (List.mem_of_getElem? hi)).1
theorem Own.lt (h : Own w0 w L) (i : Nat) {b : Nat} {t : TypeId} {cs : Array Value} (hi : L[i]? = some (b, t, cs)) : b < w.heap.size := (h.row i hi).lt
theorem Own.ge (h : Own w0 w L) (i : Nat) {b : Nat} {t : TypeId} {cs : Array Value} (hi : L[i]? = some (b, t, cs)) : w0.heap.size ≤ b := (h.rows _ (List.mem_of_getElem? hi)).2
theorem Own.made (h : Own w0 w L) (t : TypeId) (cs : Array Value) : Own w0 (w.alloc (.cells cs t)) ((w.heap.size, t, cs) :: L) := by
  refine ⟨h.be.alloc h.size _, fun x hx => ?_, List.Pairwise.cons (fun x hx => (h.rows x hx).1.lt) h.apart⟩
  rcases List.mem_cons.1 hx with rfl | hx
  · exact ⟨Row.made _ _ _, h.size⟩
  · exact ⟨(h.rows x hx).1.alloc _, (h.rows x hx).2⟩
theorem Own.alloc (h : Own w0 w L) (o : Obj) : Own w0 (w.alloc o) L := ⟨h.be.alloc h.size _, fun x hx => ⟨(h.rows x hx).1.alloc _, (h.rows x hx).2⟩, h.apart⟩
theorem Own.call (h : Own w0 w L) (hb : Below w.heap.size w w1) : Own w0 w1 L :=
  ⟨h.be.trans (hb.mono h.size), fun x hx => ⟨(h.rows x hx).1.below hb (h.rows x hx).1.lt, (h.rows x hx).2⟩, h.apart⟩
theorem Own.drewN (h : Own w0 w L) (n : Nat) : Own w0 (w.drewN n) L := ⟨below_drewN h.be n, h.rows, h.apart⟩
theorem Own.drop (h : Own w0 w L) (k : Nat) : Own w0 w (L.drop k) := ⟨h.be, fun x hx => h.rows x (List.mem_of_mem_drop hx), List.Pairwise.sublist (List.drop_sublist k L) h.apart⟩
theorem Own.sub {L' : List (Nat × TypeId × Array Value)} (h : Own w0 w L) (hs : L'.Sublist L) : Own w0 w L' := ⟨h.be, fun x hx => h.rows x (hs.subset hx), List.Pairwise.sublist hs h.apart⟩
theorem Own.put (h : Own w0 w L) (i : Nat) {b : Nat} {t : TypeId} {cs : Array Value} (hi : L[i]? = some (b, t, cs)) (k : Nat) (u : Value) : Own w0 (w.setCell ⟨b, k, none⟩ u) (L.set i (b, t, cs.setIfInBounds k u)) := by
  have hil : i < L.length := (List.getElem?_eq_some_iff.1 hi).1
  have hie : L[i] = (b, t, cs) := (List.getElem?_eq_some_iff.1 hi).2
  have hb := h.ge i hi
  have hp := List.pairwise_iff_getElem.1 h.apart
  refine ⟨h.be.setCell (p := ⟨b, k, none⟩) hb u, fun x hx => ?_, ?_⟩
  · obtain ⟨j, hj, rfl⟩ := List.getElem_of_mem hx
    rw [List.length_set] at hj
    rw [List.getElem_set]
    by_cases e : i = j
    · subst e
      simp only [if_true]
      exact ⟨(h.row i hi).put k u, hb⟩
    · simp only [if_neg e]
      have hr := h.rows L[j] (List.getElem_mem hj)
      refine ⟨hr.1.past (fun he => ?_) u, hr.2⟩
      rcases Nat.lt_or_gt_of_ne e with h1 | h1
      · have := hp i j hil hj h1; rw [hie] at this; simp only at this he; omega
      · have := hp j i hj hil h1; rw [hie] at this; simp only at this he; omega
  · refine List.pairwise_iff_getElem.2 fun i1 i2 h1 h2 h12 => ?_
    rw [List.length_set] at h1 h2
    have := hp i1 i2 h1 h2 h12
    rw [List.getElem_set, List.getElem_set]
    by_cases e1 : i = i1 <;> by_cases e2 : i = i2 <;> simp only [e1, e2, if_true, if_false]
    · omega
    · subst e1; rw [hie] at this; simp [e2]; exact this
    · subst e2; rw [hie] at this; simp [e1]; exact this
    · exact this
end

/-- Block b has n cells, of type t; cell i holds f i. -/
def Tab (w : World) (b : Nat) (t : TypeId) (n : Nat) (f : Nat → Value) : Prop := ∃ cs : Array Value, Row w b t cs ∧ cs.size = n ∧ ∀ i, i < n → cs[i]? = some (f i)
section
variable {w w' : World} {b n : Nat} {t : TypeId} {f g : Nat → Value}
theorem Tab.made (w : World) (z : Value) (n : Nat) (t : TypeId) : Tab (w.alloc (.cells (madeCells #[z] n) t)) w.heap.size t n (fun _ => z) :=
  ⟨_, Row.made _ _ _, size_madeCells _ _, fun i hi => by simp [madeCells, hi, Nat.mod_one]⟩
theorem Tab.lt (h : Tab w b t n f) : b < w.heap.size := by obtain ⟨_, h, _⟩ := h; exact h.lt
theorem Tab.cell (h : Tab w b t n f) {i : Nat} (hi : i < n) : w.cell? ⟨b, i, none⟩ = some (f i) := by obtain ⟨cs, h, _, hc⟩ := h; exact (h.cell i).trans (hc i hi)
theorem Tab.free (h : Tab w b t n f) (i : Nat) : w.frozen? ⟨b, i, none⟩ = false := by obtain ⟨cs, h, _⟩ := h; exact h.free i
theorem Tab.alloc (h : Tab w b t n f) (o : Obj) : Tab (w.alloc o) b t n f := by obtain ⟨cs, h, r⟩ := h; exact ⟨cs, h.alloc o, r⟩
theorem Tab.drewN (h : Tab w b t n f) (k : Nat) : Tab (w.drewN k) b t n f := h
theorem Tab.below {B : Nat} (h : Tab w b t n f) (hb : Below B w w') (hB : b < B) : Tab w' b t n f := by obtain ⟨cs, h, r⟩ := h; exact ⟨cs, h.below hb hB, r⟩
theorem Tab.turns {S : Nat → Prop} (h : Tab w b t n f) (g : Turns w w' S) (hb : ¬ S b) : Tab w' b t n f := by obtain ⟨cs, h, r⟩ := h; exact ⟨cs, h.turns g hb, r⟩
theorem Tab.past (h : Tab w b t n f) {p : Addr} (hp : b ≠ p.block) (u : Value) : Tab (w.setCell p u) b t n f := by obtain ⟨cs, h, r⟩ := h; exact ⟨cs, h.past hp u, r⟩
theorem Tab.congr (h : Tab w b t n f) (hg : ∀ i, i < n → f i = g i) : Tab w b t n g := by
  obtain ⟨cs, h, r, hc⟩ := h; exact ⟨cs, h, r, fun i hi => by rw [hc i hi, hg i hi]⟩
theorem Tab.put (h : Tab w b t n f) (k : Nat) (u : Value) (hg : ∀ i, i < n → i ≠ k → f i = g i) (hk : k < n → u = g k) : Tab (w.setCell ⟨b, k, none⟩ u) b t n g := by
  obtain ⟨cs, h, r, hc⟩ := h
  refine ⟨_, h.put k u, by simpa using r, fun i hi => ?_⟩
  rw [Array.getElem?_setIfInBounds]
  by_cases e : k = i
  · subst e
    rw [if_pos rfl, if_pos (by omega), hk hi]
  · rw [if_neg e, hc i hi, hg i hi (fun h => e h.symm)]
end
end Go.Proofs.Ytkklceblojcbkaa
