/- Chunks of any iterator, told to the body of a range. -/
import Derived.Test.YtkklceblojcbkaaSrQ
namespace Go.Proofs.Ytkklceblojcbkaa.Sr
open Go.RowKit Go.Proofs.Ytkklceblojcbkaa Go.Proofs.Ytkklceblojcbkaa.Sq
set_option linter.unusedVariables false
set_option maxRecDepth 100000
attribute [local go_sem] Oper.semAt_some
/-- A list that is handed out: its value, its things. -/
abbrev Ck := Value × List Int
def encC : Ck → Array Value := fun c => #[c.1]
def flat (l : List Ck) : List Int := l.flatMap Prod.snd
theorem flat_snoc (l : List Ck) (c : Ck) : flat (l ++ [c]) = flat l ++ c.2 := by simp [flat]
/-- What may come next. -/
def NxC (zs : List Int) (k : Int) (pre : List Ck) (c : Ck) : Prop :=
  flat pre ++ c.2 <+: zs ∧ 1 ≤ c.2.length ∧ (c.2.length : Int) ≤ max k 1 ∧ ((c.2.length : Int) < max k 1 → flat pre ++ c.2 = zs)
def GC (zs : List Int) (k : Int) : Own → List Ck → Ck → World → Prop := fun _ pre c W => NxC zs k pre c ∧ ∃ ob, Seg W 3 1 c.1 c.2.length (ints c.2) ob
def SC (zs : List Int) : Bool → List Ck → Prop := fun b ys => b = true → flat ys = zs
theorem RoundIn.more' {F : Fence} {n n' : Nat} {P : Program} {l : Nat} {f : FuncId} {tmps : Array Value} {assign body : Code} {w : World} {R : Ending → World → Prop}
    (h : RoundIn F n P l f tmps assign body w R) (hn : n ≤ n') : RoundIn F n' P l f tmps assign body w R := ⟨h.1, fun c cs hr => h.2 c cs (Fence.room_le hr (by omega))⟩
/-- The chunk so far: its variable is block L + 1; it lies in a block that the hearer is told to be owned. -/
structure Cu (L : Nat) (J : Own → List Ck → World → Prop) (X O : Own) (A : World) (cks : List Ck) (cs : List Int) (v : Value) (ob : Option Nat) : Prop where
  j : J (fun j => O j ∨ (X j ∨ ob = some j)) cks A
  row : Row A (L + 1) 22 #[v]
  seg : Seg A 3 1 v cs.length (ints cs) ob
  own : ∀ g, ob = some g → L + 3 ≤ g ∧ ¬ O g
  ge : ∀ k, O k → L + 3 ≤ k
  lt : ∀ k, O k → k < A.heap.size
  sz : L + 3 ≤ A.heap.size
theorem cu_stb {L B : Nat} {J : Own → List Ck → World → Prop} {X : Own} (hJ : Stb B J) (p : List Ck → List Int → List Int → Prop) : Stb B (fun (O : Own) (pre : List Int) A => ∃ cks cs v ob, p cks cs pre ∧ Cu L J X O A cks cs v ob) :=
  ⟨fun O O' s A hO ⟨cks, cs, v, ob, hp, h⟩ => ⟨cks, cs, v, ob, hp, hJ.sub _ _ _ _ (fun k e => e.imp_left (hO k)) h.j, h.row, h.seg, fun g e => ⟨(h.own g e).1, fun x => (h.own g e).2 (hO _ x)⟩, fun k e => h.ge k (hO k e), fun k e => h.lt k (hO k e), h.sz⟩,
   fun O s A o ⟨cks, cs, v, ob, hp, h⟩ => ⟨cks, cs, v, ob, hp, (hJ.base (fun j => X j ∨ ob = some j)).alloc _ _ _ o h.j, h.row.alloc o, h.seg.alloc o, fun g e => ⟨(h.own g e).1, fun x => x.elim (h.own g e).2 (fun x => by subst x; have := h.seg.lt _ e; omega)⟩, fun k e => e.elim (h.ge k) (fun e => by have := h.sz; omega), fun k e => e.elim (fun e => by have := h.lt k e; simp; omega) (fun e => by simp; omega), by have := h.sz; simp; omega⟩,
   fun O s A k v' ⟨cks, cs, v, ob, hp, h⟩ hk => ⟨cks, cs, v, ob, hp, hJ.set _ _ _ _ _ h.j (.inl hk), (heap_setCell_other _ _ (L + 1) v' (fun e => by have e : L + 1 = k := e; have := h.ge k hk; omega)).trans h.row, h.seg.past (p := ⟨k, 0, none⟩) (fun e => (h.own _ e).2 hk) v', h.own, h.ge, fun k e => by have := h.lt k e; simpa using this, by have := h.sz; simpa using this⟩,
   fun O s A A' row ⟨cks, cs, v, ob, hp, h⟩ hg hr => ⟨cks, cs, v, ob, hp, hJ.walk _ _ _ _ _ h.j hg hr, row_kept' h.row hg (fun x e => (hr x e).2), seg_walk h.seg hg (fun x e => (hr x e).2), h.own, h.ge, fun k e => Nat.lt_of_lt_of_le (h.lt k e) hg.size, Nat.le_trans h.sz hg.size⟩,
   fun O s A A' ⟨cks, cs, v, ob, hp, h⟩ hg => ⟨cks, cs, v, ob, hp, (hJ.base (fun j => X j ∨ ob = some j)).turn _ _ _ _ h.j hg, h.row.turns hg (fun e => by have := h.ge _ e; omega), h.seg.turns hg (fun g e => (h.own g e).2), fun g e => ⟨(h.own g e).1, fun x => x.elim (h.own g e).2 (fun x => by have := h.seg.lt g e; omega)⟩, fun k e => e.elim (h.ge k) (fun e => by have := h.sz; omega), fun k e => e.elim (fun e => Nat.lt_of_lt_of_le (h.lt k e) hg.size) (fun e => e.2), Nat.le_trans h.sz hg.size⟩⟩
/-- An append to the chunk: the block of the new thing, what turned, the variable's store. -/
theorem Cu.app {L B : Nat} {J : Own → List Ck → World → Prop} {X O : Own} {Z w5 : World} {cks : List Ck} {cs : List Int} {v v2 : Value} {ob ob2 : Option Nat} {o : Obj} {x : Int} (h : Cu L J X O Z cks cs v ob) (hJ : Stb B J) (hX : X (L + 1))
    (hs2 : Seg w5 3 1 v2 (cs.length + 1) (ints cs ++ [.int .i64 x]) ob2) (ht2 : Turns (Z.alloc o) w5 (fun k => ob = some k)) (ho2 : ob2 = ob ∨ ∃ g, ob2 = some g ∧ (Z.alloc o).heap.size ≤ g) :
    Cu L J X O (w5.setCell ⟨L + 1, 0, none⟩ v2) cks (cs ++ [x]) v2 ob2 := by
  have hsz := h.sz
  have hs5 := ht2.size
  simp at hs5
  have hnb : ∀ g, ob2 = some g → L + 3 ≤ g ∧ ¬ O g := fun g e => by
    rcases ho2 with k | ⟨g', k, hg'⟩
    · rw [k] at e; exact h.own g e
    · rw [k] at e; injection e with e; subst e; simp at hg'
      exact ⟨by omega, fun hO => by have := h.lt _ hO; omega⟩
  have hj : J (fun j => O j ∨ (X j ∨ ob2 = some j)) cks w5 := by
    refine hJ.sub _ _ _ _ ?_ (hJ.turn _ _ _ _ (hJ.alloc _ _ _ o h.j) (ht2.mono (fun k _ e => .inl (.inr (.inr e)))))
    rintro k (e | e | e)
    · exact .inl (.inl (.inl e))
    · exact .inl (.inl (.inr (.inl e)))
    · rcases ho2 with k2 | ⟨g', k2, hg'⟩
      · rw [k2] at e; exact .inl (.inl (.inr (.inr e)))
      · rw [k2] at e; injection e with e; subst e
        exact .inr ⟨hg', hs2.lt _ k2⟩
  refine ⟨hJ.set _ _ _ _ _ hj (.inr (.inl hX)), ?_, ?_, hnb, h.ge, fun k e => by have := h.lt k e; simp; omega, by simp; omega⟩
  · have r5 := (h.row.alloc o).turns ht2 (fun e => by have := (h.own _ e).1; omega)
    simpa using r5.put 0 v2
  · have hcs : ints (cs ++ [x]) = ints cs ++ [.int .i64 x] := by simp [ints]
    rw [hcs, List.length_append]
    exact hs2.past (p := ⟨L + 1, 0, none⟩) (fun e => by have h9 : L + 3 ≤ L + 1 := (hnb _ e).1; omega) _
theorem Cu.keeps {L : Nat} {J : Own → List Ck → World → Prop} {X O P : Own} {Z w5 : World} {cks : List Ck} {cs : List Int} {v v2 : Value} {ob : Option Nat} {o : Obj} {b b' : Nat} (h : Cu L J X O Z cks cs v ob) (hP : ∀ k, P k → k < L ∨ k = L + 2)
    (ht2 : Turns (Z.alloc o) w5 (fun k => ob = some k)) : Kq P O b Z (w5.setCell ⟨L + 1, 0, none⟩ v2) ∧ KeepsFrom b' Z (w5.setCell ⟨L + 1, 0, none⟩ v2) := by
  have hx2 : ∀ k o', ob = some k → (Z.alloc o).heap[k]? = some o' → ∃ c, o' = .cells c 3 := fun k o' e hh => by
    have hsg := h.seg.alloc o
    rw [e] at hsg
    obtain ⟨c', hr'⟩ := seg_row hsg
    unfold Row at hr'
    rw [hr'] at hh
    cases hh
    exact ⟨_, rfl⟩
  have hkf : ∀ B, KeepsFrom B Z (w5.setCell ⟨L + 1, 0, none⟩ v2) := fun B => ((KeepsOthers.alloc _ _).from _).trans ((keeps_turns ht2 (fun k o e h => by obtain ⟨c, rfl⟩ := hx2 k o e h; rfl)).trans ((KeepsOthers.setCell _ _ _).from _))
  refine ⟨⟨hkf _, fun k2 cs t hk2 ht => ?_⟩, hkf _⟩
  have hk3 : (Z.alloc o).heap[k2]? = some (.cells cs t) := (Below.heap_alloc Z _ k2 (Array.getElem?_eq_some_iff.1 hk2).1).trans hk2
  have hno : ob ≠ some k2 := fun e => by
    have h7 := h.own k2 e
    rcases ht with h | h
    · exact h7.2 h
    · have := hP k2 h; omega
  have hnl : k2 ≠ L + 1 := fun e => by
    subst e
    rcases ht with h' | h'
    · have := h.ge _ h'; omega
    · have := hP _ h'; omega
  rw [heap_setCell_other _ _ _ _ hnl, ht2.block k2 (Array.getElem?_eq_some_iff.1 hk3).1 hno]
  exact hk3
end Go.Proofs.Ytkklceblojcbkaa.Sr
