/- Ranges over what tells things: the rule, and what is kept (put together out of the texts of layer 8). -/
import Derived.Test.YtnibmfijkbfaeaaOmB
import Derived.Test.YtnibmfijkbfaeaaApp2
import Derived.Test.YtnibmfijkbfaeaaLaw
import Derived.BigQuiet
import Derived.BigRegion
import Derived.Deep.CutBlock
import Derived.Deep.DeepCutAuto
import Derived.Deep.OwnRows
import Derived.Deep.RegionHeld
import Derived.Deep.RegionHeld3
import Derived.Deep.RegionLaw
import Derived.Defers
import Derived.Lib.SliceRun
import Derived.LoopIn
import Derived.LoopNIn
import Derived.Maps.OwnSet
import Derived.OwnWalkIn
import Derived.RangeFuncBound
import Derived.RangeFuncCalls
import Derived.RangeFuncFrom
import Derived.RangeFuncLeaves
import Derived.RangeFuncNested
import Derived.Recover
import Derived.Shelf.Abstract
import Derived.TacticsInMore
namespace Go.Proofs.Ytnibmfijkbfaeaa.Om
open Go.RowKit Go.Proofs.Ytnibmfijkbfaeaa
set_option linter.unusedVariables false
set_option linter.unusedSimpArgs false
set_option maxRecDepth 100000
attribute [local go_sem] Oper.semAt_some
theorem grown_of_below {w w' : World} (h : Below w.heap.size w w') : w.grownBy w' none := ⟨h.os, h.tape, h.output, h.size, fun k hk _ => h.block k hk⟩
theorem row_kept' {A B : World} {r : Option Nat} {b : Nat} {t : TypeId} {cs : Array Value} (h : Row A b t cs) (hg : A.grownBy B r) (hr : ∀ x, r = some x → ∃ o : Obj, A.heap[x]? = some o ∧ o.isCells = false) : Row B b t cs :=
  Row.grown h hg (fun e => by obtain ⟨o, ho, hc⟩ := hr b e.symm; unfold Row at h; rw [h] at ho; cases ho; cases hc)
/-- How a round's body may be left. -/
def Left {α : Type} (B : Nat) (Kp : World → World → Prop) (I : List α → World → Prop) (Ix : Code → List α → World → Prop) (xs : List α) (W : World) : Exit → Act → World → Prop
  | .normal, _, W' => KeepsFrom B W W' ∧ Kp W W' ∧ I xs W'
  | .ret, _, W' => KeepsFrom B W W' ∧ Kp W W' ∧ Ix .ret xs W'
  | .exit id, _, W' => KeepsFrom B W W' ∧ Kp W W' ∧ Ix (.exit id) xs W'
  | .goto t, _, W' => KeepsFrom B W W' ∧ Kp W W' ∧ Ix (.goto t) xs W'
  | .panic _, _, _ => False
  | .outgrown, _, _ => False
/-- What a round keeps: truths, ears, and the things that are told. -/
def Kp (P : Nat → Prop) (m : Nat) (B : Nat) (W W' : World) : Prop := KeepsFrom B W W' ∧ ∀ k cs t, W.heap[k]? = some (.cells cs t) → (t = 4 ∨ t = 32 ∨ P k ∨ (B ≤ k ∧ k < B + m)) → W'.heap[k]? = some (.cells cs t)
theorem seg_row {w : World} {e : TypeId} {size n : Nat} {v : Value} {xs : List Value} {g : Nat} (h : Seg w e size v n xs (some g)) : ∃ c, Row w g e c := by
  obtain ⟨_, A, cap, _, _, _, ⟨_, h2, _⟩ | ⟨g', o, cur, _, h2, h3, _⟩⟩ := h
  · cases h2
  · cases h2; exact ⟨_, h3⟩
theorem results_cell0 {fn : Func} {p : Tmp} (h : fn.results = #[.cell p 4]) (tmps : Array Value) (w : World) (g : Nat) (v : Value)
    (hp : tmps.getD p undef = .pointer (some ⟨g, 0, none⟩)) (hc : w.cell? ⟨g, 0, none⟩ = some v) : (results fn tmps).run Try.prog w = .ok v w := by
  have hp' : tmps[p]?.getD undef = .pointer (some ⟨g, 0, none⟩) := by simpa using hp
  have hl : (loadVar 4 ⟨g, 0, none⟩).run Try.prog w = .ok v w := by
    simp [loadVar, go_sem, hc, Result.andThen]
  simp [results, h, hp', asAddr, hl]
/-- Owned blocks. -/
abbrev Own := Nat → Prop
/-- What holds whatever an iterator does beside its rounds. -/
structure Stb {β : Type} (B : Nat) (J : Own → β → World → Prop) : Prop where
  sub : ∀ (O O' : Own) (s : β) (A : World), (∀ k, O' k → O k) → J O s A → J O' s A
  alloc : ∀ (O : Own) (s : β) (A : World) (o : Obj), J O s A → J (fun k => O k ∨ k = A.heap.size) s (A.alloc o)
  set : ∀ (O : Own) (s : β) (A : World) (k : Nat) (v : Value), J O s A → O k → J O s (A.setCell ⟨k, 0, none⟩ v)
  walk : ∀ (O : Own) (s : β) (A A' : World) (row : Option Nat), J O s A → A.grownBy A' row → (∀ r, row = some r → B ≤ r ∧ ∃ o : Obj, A.heap[r]? = some o ∧ o.isCells = false) → J O s A'
  turn : ∀ (O : Own) (s : β) (A A' : World), J O s A → Turns A A' O → J (fun k => O k ∨ (A.heap.size ≤ k ∧ k < A'.heap.size)) s A'
theorem Stb.mono {β : Type} {B B' : Nat} {J : Own → β → World → Prop} (h : Stb B J) (hB : B ≤ B') : Stb B' J :=
  ⟨h.sub, h.alloc, h.set, fun O s A A' row hj hg hr => h.walk O s A A' row hj hg (fun r e => ⟨Nat.le_trans hB (hr r e).1, (hr r e).2⟩), h.turn⟩
/-- What a round keeps. -/
def Kq (P O : Own) (B : Nat) (W W' : World) : Prop := KeepsFrom B W W' ∧ ∀ k cs t, W.heap[k]? = some (.cells cs t) → (O k ∨ P k) → W'.heap[k]? = some (.cells cs t)
theorem Kq.refl (P O : Own) (b : Nat) (A : World) : Kq P O b A A := ⟨KeepsFrom.refl _ _, fun _ _ _ h _ => h⟩
theorem Kq.trans {P O : Own} {b : Nat} {A B C : World} (h : Kq P O b A B) (k : Kq P O b B C) : Kq P O b A C := ⟨h.1.trans k.1, fun i cs t hi ht => k.2 i cs t (h.2 i cs t hi ht) ht⟩
theorem Kq.less {P O P' O' : Own} {b b' : Nat} {A B : World} (h : Kq P O b A B) (hb : b ≤ b') (hO : ∀ k, O' k ∨ P' k → O k ∨ P k) : Kq P' O' b' A B :=
  ⟨⟨h.1.size, fun k o hk => h.1.same k o (Nat.le_trans hb hk)⟩, fun i cs t hi ht => h.2 i cs t hi (hO i ht)⟩
theorem Kq.row {P O : Own} {b g : Nat} {A B : World} (h : Kq P O b A B) (hg : O g ∨ P g) {t : TypeId} {cs : Array Value} (hr : Row A g t cs) : Row B g t cs := h.2 g cs t hr hg
theorem Kq.seg {P O : Own} {ob : Option Nat} {b : Nat} {A B : World} (h : Kq P O b A B) (hP : ∀ g, ob = some g → O g ∨ P g) {e : TypeId} {size n : Nat} {v : Value} {xs : List Value} (hs : Seg A e size v n xs ob) : Seg B e size v n xs ob := by
  obtain ⟨h0, A, cap, hv, h1, h2, h3⟩ := hs
  refine ⟨h0, A, cap, hv, h1, h2, ?_⟩
  rcases h3 with h3 | ⟨g, o2, cur, a1, a2, a3, a4, a5⟩
  · exact .inl h3
  · exact .inr ⟨g, o2, cur, a1, a2, h.2 g _ _ a3 (hP g a2), a4, a5⟩
theorem kq_put {P O : Own} {B : Nat} (W : World) (l : Nat) (o o' : Obj) (hB : l < B) (h : W.heap[l]? = some o) (hc : o.isCells = false) : Kq P O B W (W.putObj l o') := ⟨KeepsFrom.of_grownBy (grownBy_putObj' W l o') (fun j e => by injection e with e; omega), fun k cs t hk ht => by
  have hne : k ≠ l := fun e => by subst e; rw [h] at hk; cases hk; cases hc
  exact (World.putObj_heap_other hne).trans hk⟩
theorem kq_set {P O : Own} {B b : Nat} (X : World) (h : ¬ (O b ∨ P b)) (i : Nat) (v : Value) : Kq P O B X (X.setCell ⟨b, i, none⟩ v) := ⟨(KeepsOthers.setCell _ _ _).from _, fun k c2 t2 hk ht => by
  refine (heap_setCell_other _ _ k v (fun e => ?_)).trans hk
  have e : k = b := e
  subst e
  exact h ht⟩
theorem kq_alloc {P O : Own} {B : Nat} (X : World) (o : Obj) : Kq P O B X (X.alloc o) := ⟨(KeepsOthers.alloc _ _).from _, fun k c2 t2 hk ht => (Below.heap_alloc X _ k (Array.getElem?_eq_some_iff.1 hk).1).trans hk⟩
/-- The old things that are read lie as they did. -/
def Hold (P : Own) (w W : World) : Prop := w.heap.size ≤ W.heap.size ∧ ∀ k cs t, P k → w.heap[k]? = some (.cells cs t) → W.heap[k]? = some (.cells cs t)
theorem Hold.refl (P : Own) (w : World) : Hold P w w := ⟨Nat.le_refl _, fun _ _ _ _ h => h⟩
theorem Hold.trans {P : Own} {A B C : World} (h : Hold P A B) (k : Hold P B C) : Hold P A C := ⟨Nat.le_trans h.1 k.1, fun i cs t hi ht => k.2 i cs t hi (h.2 i cs t hi ht)⟩
theorem Hold.below {P : Own} {A B : World} (h : Below A.heap.size A B) : Hold P A B := ⟨h.size, fun k cs t _ hk => (h.block k (Array.getElem?_eq_some_iff.1 hk).1).trans hk⟩
theorem Hold.kq {P O : Own} {b : Nat} {w A B : World} (h : Hold P w A) (k : Kq P O b A B) : Hold P w B := ⟨Nat.le_trans h.1 k.1.size, fun i cs t hi ht => k.2 i cs t (h.2 i cs t hi ht) (.inr hi)⟩
theorem Hold.row {P : Own} {A B : World} (h : Hold P A B) {b : Nat} (hb : P b) {t : TypeId} {cs : Array Value} (hr : Row A b t cs) : Row B b t cs := h.2 b cs t hb hr
theorem Hold.seg {P : Own} {A B : World} (h : Hold P A B) {ob : Option Nat} (hP : ∀ g, ob = some g → P g) {e : TypeId} {size n : Nat} {v : Value} {xs : List Value} (hs : Seg A e size v n xs ob) : Seg B e size v n xs ob := by
  obtain ⟨h0, A, cap, hv, h1, h2, h3⟩ := hs
  refine ⟨h0, A, cap, hv, h1, h2, ?_⟩
  rcases h3 with h3 | ⟨g, o2, cur, a1, a2, a3, a4, a5⟩
  · exact .inl h3
  · exact .inr ⟨g, o2, cur, a1, a2, h.2 g _ _ (hP g a2) a3, a4, a5⟩
theorem Hold.set {P : Own} {A B : World} (h : Hold P A B) {b : Nat} (hb : ¬ P b) (i : Nat) (v : Value) : Hold P A (B.setCell ⟨b, i, none⟩ v) :=
  ⟨Nat.le_trans h.1 (by simp), fun k cs t hk hc => (heap_setCell_other _ _ k v (fun e => by have e : k = b := e; subst e; exact hb hk)).trans (h.2 k cs t hk hc)⟩
/-- An iterator that tells to the body of a range. -/
def Tel {α : Type} (d : Nat) (F : Fence) (n : Nat) (P : Program) (g : Nat) (lb : Array Value) (encs : α → Array Value) (KP : Own) (S : Bool → List α → Prop) (G : List α → α → Prop) (w : World) : Prop :=
  ∀ (l : Nat) (J Jx : Own → List α → World → Prop) (O0 : Own) (W : World), Hold KP w W → Stb W.heap.size J → Stb W.heap.size Jx → 
    (∀ O pre x W1, J O pre W1 → G pre x → W.heap.size ≤ W1.heap.size → YieldAt F (n - d) P l (encs x) W1 fun e W' => Kq KP O W.heap.size W1 W' ∧ ((e = .returned (.bool true) ∧ J O (pre ++ [x]) W') ∨ (e = .returned (.bool false) ∧ Jx O (pre ++ [x]) W'))) →
    J O0 [] W → CallsIn F n P g (#[.func (.yield l) #[] #[]] ++ lb) W fun e W' => (∃ v, e = .returned v) ∧ ∃ O ys, (S true ys ∧ J O ys W') ∨ (S false ys ∧ Jx O ys W')
theorem wpIn_rangeTel {F : Fence} {n : Nat} {P : Program} {α : Type} {g : Operand} {ps : Array Tmp} {assign body : Code} {Q : Exit → Act → World → Prop} {a : Act} {w : World}
    (hro : F.round = none) (h1 : 1 ≤ n) {gf : Nat} {lb : Array Value} (hg : a.eval g = .func (.func gf) #[] lb) (hFg : F.fn gf) (eg : ∀ args w, (callFunc gf args).run P w = .ok (.enter gf args) w)
    {encs : α → Array Value} {KP : Own} {d : Nat} {S : Bool → List α → Prop} {G : List α → α → Prop} {w0 : World} (hseq : Tel d F (n - 1) P gf lb encs KP S G w0)
    (hb0 : Hold KP w0 w) (hps : ∀ x, (encs x).size = ps.size)
    (I : Own → List α → World → Prop) (Ix : Code → Own → List α → World → Prop) (hI : Stb w.heap.size I) (hIx : ∀ c, Stb w.heap.size (Ix c)) (h0 : I (fun _ => False) [] w)
    (hround : ∀ (l : Nat) (O : Own) (pre : List α) (x : α) (W : World), w.heap.size ≤ l → I O pre W → G pre x → w.heap.size + 2 ≤ W.heap.size →
      assign.wpIn (F.inRound l) (n - 1 - d) P (Exit.then (fun a' W' => KeepsFrom w.heap.size W W' ∧ Kq KP O (w.heap.size + 2) W W' ∧ ∀ o o' : Obj, o.isCells = false → W'.heap[l]? = some o → body.wpIn (F.inRound l) (n - 1 - d) P (Left w.heap.size (Kq KP O (w.heap.size + 2)) (I O) (fun c => Ix c O) (pre ++ [x]) (W'.putObj l o')) a' (W'.putObj l o')) (fun _ _ _ => False))
        { tmps := (ps.zip (encs x)).foldl (fun t (p, v) => t.setIfInBounds p v) a.tmps, defers := [] } W)
    (hdone : ∀ (D : Nat) (O : Own) (xs : List α) (W : World), w.heap.size ≤ D → ¬ O D → S true xs → I O xs W → W.heap[D]? = some (.deferred (some [])) → Q .normal { a with defers := { target := .collected D, args := #[] } :: a.defers } W)
    (hstop : ∀ (D : Nat) (c : Code) (O : Own) (pre : List α) (W : World), w.heap.size ≤ D → ¬ O D → S false pre → Ix c O pre W → W.heap[D]? = some (.deferred (some [])) → c.wpIn F n P Q { a with defers := { target := .collected D, args := #[] } :: a.defers } W) :
    (Code.rangeFunc g ps assign body).wpIn F n P Q a w := by
  refine wpIn_rangeFunc fun fn hfn => ?_
  rw [hro]
  obtain ⟨D, hD⟩ : ∃ D, w.heap.size = D := ⟨_, rfl⟩
  obtain ⟨L, hL⟩ : ∃ L, D + 1 = L := ⟨_, rfl⟩
  obtain ⟨rec, hrec⟩ : ∃ rec : LoopState → Option Code → Loop, rec = fun st pe => { state := st, pending := pe, fn, tmps := a.tmps, params := ps, assign, body, defers := D } := ⟨_, rfl⟩
  obtain ⟨V, hV⟩ : ∃ V, (w.alloc (.deferred (some []))).alloc (.loop (rec .ready none)) = V := ⟨_, rfl⟩
  have eL : V.heap[L]? = some (.loop (rec .ready none)) := by
    have := World.alloc_heap_new (w.alloc (.deferred (some []))) (.loop (rec .ready none))
    rw [World.size_alloc, hD, hL, hV] at this
    exact this
  have eD : V.heap[D]? = some (.deferred (some [])) := by
    have h1 := World.alloc_heap_new w (.deferred (some []))
    rw [hD] at h1
    have := (Below.heap_alloc (w.alloc (.deferred (some []))) (.loop (rec .ready none)) D (by rw [World.size_alloc]; omega)).trans h1
    rw [hV] at this
    exact this
  have iV : I (fun _ => False) [] V := by
    rw [← hV]
    exact hI.walk _ _ _ _ none (hI.walk _ _ _ _ none h0 (grown_of_below ((Below.refl _ w).alloc (Nat.le_refl _) _)) (fun r e => by cases e)) (grown_of_below ((Below.refl _ (w.alloc (.deferred (some [])))).alloc (Nat.le_refl _) _)) (fun r e => by cases e)
  have sV : V.heap.size = w.heap.size + 2 := by rw [← hV]; simp
  have hKp' : ∀ {O : Own} {A B : World}, Kq KP O (w.heap.size + 2) A B → Kq KP O V.heap.size A B := fun h => by rw [sV]; exact h
  have bV : Hold KP w0 V := by
    rw [← hV]; exact hb0.trans (Hold.below (((Below.refl _ w).alloc (Nat.le_refl _) _).alloc (by simp) _))
  have nV : L < V.heap.size := (Array.getElem?_eq_some_iff.1 eL).1
  have nW : w.heap.size ≤ V.heap.size := by omega
  -- what the books say
  obtain ⟨Bk, hBk⟩ : ∃ Bk : Option Code → Own → World → Prop, Bk = fun pe O W => (W.heap[L]? = some (.loop (rec (if pe.isNone then .ready else .done) pe)) ∧ W.heap[D]? = some (.deferred (some []))) ∧ ¬ O L ∧ ¬ O D := ⟨_, rfl⟩
  have sB : ∀ pe (J : Own → List α → World → Prop), Stb w.heap.size J → Stb V.heap.size (fun O pre W => J O pre W ∧ Bk pe O W) := fun pe J hJ => by
    rw [hBk]
    refine ⟨fun O O' s A h k => ⟨hJ.sub _ _ _ _ h k.1, k.2.1, fun e => k.2.2.1 (h _ e), fun e => k.2.2.2 (h _ e)⟩, fun O s A o h => ?_, fun O s A k v h hk => ?_, fun O s A A' row h hg hr => ?_, fun O s A A' h hg => ?_⟩
    · have l1 := (Array.getElem?_eq_some_iff.1 h.2.1.1).1
      have l2 := (Array.getElem?_eq_some_iff.1 h.2.1.2).1
      exact ⟨hJ.alloc _ _ _ _ h.1, ⟨(Below.heap_alloc A _ L l1).trans h.2.1.1, (Below.heap_alloc A _ D l2).trans h.2.1.2⟩, fun e => e.elim h.2.2.1 (fun e => by omega), fun e => e.elim h.2.2.2 (fun e => by omega)⟩
    · exact ⟨hJ.set _ _ _ _ _ h.1 hk, ⟨(heap_setCell_other _ _ L v (fun e => h.2.2.1 (e ▸ hk))).trans h.2.1.1, (heap_setCell_other _ _ D v (fun e => h.2.2.2 (e ▸ hk))).trans h.2.1.2⟩, h.2.2⟩
    · have l1 := (Array.getElem?_eq_some_iff.1 h.2.1.1).1
      have l2 := (Array.getElem?_eq_some_iff.1 h.2.1.2).1
      exact ⟨hJ.walk _ _ _ _ _ h.1 hg (fun r e => ⟨by have := (hr r e).1; omega, (hr r e).2⟩), ⟨(hg.block L l1 (fun e => by have := (hr L e.symm).1; omega)).trans h.2.1.1, (hg.block D l2 (fun e => by have := (hr D e.symm).1; omega)).trans h.2.1.2⟩, h.2.2⟩
    · have l1 := (Array.getElem?_eq_some_iff.1 h.2.1.1).1
      have l2 := (Array.getElem?_eq_some_iff.1 h.2.1.2).1
      exact ⟨hJ.turn _ _ _ _ h.1 hg, ⟨(hg.block L l1 h.2.2.1).trans h.2.1.1, (hg.block D l2 h.2.2.2).trans h.2.1.2⟩, fun e => e.elim h.2.2.1 (fun e => by omega), fun e => e.elim h.2.2.2 (fun e => by omega)⟩
  have sIx : Stb V.heap.size (fun O pre W => ∃ c, Ix c O pre W ∧ Bk (some c) O W) :=
    ⟨fun O O' s A h ⟨c, k⟩ => ⟨c, (sB (some c) (Ix c) (hIx c)).sub _ _ _ _ h k⟩, fun O s A o ⟨c, k⟩ => ⟨c, (sB (some c) (Ix c) (hIx c)).alloc _ _ _ _ k⟩, fun O s A k v ⟨c, h⟩ hk => ⟨c, (sB (some c) (Ix c) (hIx c)).set _ _ _ _ _ h hk⟩, fun O s A A' row ⟨c, h⟩ hg hr => ⟨c, (sB (some c) (Ix c) (hIx c)).walk _ _ _ _ _ h hg hr⟩, fun O s A A' ⟨c, h⟩ hg => ⟨c, (sB (some c) (Ix c) (hIx c)).turn _ _ _ _ h hg⟩⟩
  have put : ∀ {J : Own → List α → World → Prop} {O : Own} {s : List α} {A : World} {o o' : Obj}, Stb w.heap.size J → J O s A → A.heap[L]? = some o → o.isCells = false → J O s (A.putObj L o') := fun {J O s A o o'} hJ h ho hc =>
    hJ.walk _ _ _ _ _ h (grownBy_putObj' A L o') (fun r e => by injection e with e; subst e; exact ⟨by omega, _, ho, hc⟩)
  refine ⟨L, [{ target := .collected D, args := #[] }], V, { target := .fn (.func gf) lb, args := #[.func (.yield L) #[] #[]] }, V, gf, #[.func (.yield L) #[] #[]] ++ lb, V, ?_, ?_, ?_, ?_, fun _ => h1, ?_⟩
  · have := run_enterLoop_outer (P := P) (w := w) fn a.tmps ps assign body
    rw [hD] at this
    rw [← hV, hrec, ← hL]
    exact this
  · simp only [resolve, hg]
    simp [go_sem]
  · intro f' hf'; simp [Target.leads] at hf'; subst hf'; exact hFg
  · simp [invoke, go_sem, eg]
  · refine (hseq L (fun O pre W => I O pre W ∧ Bk none O W) (fun O pre W => ∃ c, Ix c O pre W ∧ Bk (some c) O W) (fun _ => False) V bV (sB none I hI) sIx ?_ ⟨iV, by rw [hBk]; exact ⟨⟨eL, eD⟩, id, id⟩⟩).mono ?_
    · rintro O pre x W ⟨hi, hb⟩ hlen hsz
      rw [hBk] at hb
      obtain ⟨⟨hl, hk⟩, hnl, hnd⟩ := hb
      have hl : W.heap[L]? = some (.loop (rec .ready none)) := hl
      have hy := run_yield (P := P) (args := encs x) hl (by rw [hrec]; exact hps x)
      rw [hrec] at hy
      refine ⟨fn, _, assign, body, hy, roundIn_of_wpIn hfn (wpIn_mono (hround L O pre x W (by omega) hi hlen (by omega)) ?_)⟩
      intro e0 a' W' hK
      cases e0 with
      | normal =>
        obtain ⟨k1, p1, hbody⟩ := hK
        have hl' := k1.same _ _ (by omega) hl rfl
        have hk' := k1.same _ _ (by omega) hk rfl
        have hlt : L < W'.heap.size := (Array.getElem?_eq_some_iff.1 hl').1
        refine ⟨_, run_beginRound hl' (by rw [hrec]), ?_⟩
        have hbody := hbody _ (.loop { rec .ready none with state := .busy }) rfl hl'
        obtain ⟨X, hX⟩ : ∃ X, W'.putObj L (.loop { rec .ready none with state := .busy }) = X := ⟨_, rfl⟩
        have xl : X.heap[L]? = some (.loop { rec .ready none with state := .busy }) := by rw [← hX]; exact World.putObj_heap_same hlt
        have xk : X.heap[D]? = some (.deferred (some [])) := by rw [← hX]; exact (World.putObj_heap_other (by omega)).trans hk'
        have xw : Kq KP O (w.heap.size + 2) W X := by rw [← hX]; exact p1.trans (kq_put _ _ _ _ (by omega) hl' rfl)
        rw [hX] at hbody ⊢
        refine wpIn_mono hbody ?_
        have fin : ∀ (jump : Option Code) (Y : World), KeepsFrom w.heap.size X Y → ∃ Z, (Instr.endRound L jump).run P Y = .ok (.bool jump.isNone) Z ∧ Bk jump O Z ∧ Z = Y.putObj L (.loop (rec (if jump.isNone then .ready else .done) jump)) ∧ Y.heap[L]? = some (.loop { rec .ready none with state := .busy }) := fun jump Y hk3 => by
          have yl := hk3.same _ _ (by omega) xl rfl
          have yk := hk3.same _ _ (by omega) xk rfl
          have hr := run_endRound (P := P) jump yl
          refine ⟨_, by rw [hrec] at hr ⊢; exact hr, ?_, rfl, yl⟩
          rw [hBk]
          exact ⟨⟨World.putObj_heap_same (Array.getElem?_eq_some_iff.1 yl).1, (World.putObj_heap_other (by omega)).trans yk⟩, hnl, hnd⟩
        rintro e a3 Y hp
        cases e with
        | normal =>
          obtain ⟨k3, p3, i3⟩ := hp
          obtain ⟨Z, hr, hbz, rfl, yl⟩ := fin none Y k3
          exact ⟨_, _, hr, hKp' (xw.trans (p3.trans (kq_put _ _ _ _ (by omega) yl rfl))), .inl ⟨rfl, put hI i3 yl rfl, hbz⟩⟩
        | ret =>
          obtain ⟨k3, p3, i3⟩ := hp
          obtain ⟨Z, hr, hbz, rfl, yl⟩ := fin (some .ret) Y k3
          exact ⟨_, _, hr, hKp' (xw.trans (p3.trans (kq_put _ _ _ _ (by omega) yl rfl))), .inr ⟨rfl, _, put (hIx _) i3 yl rfl, hbz⟩⟩
        | exit id =>
          obtain ⟨k3, p3, i3⟩ := hp
          obtain ⟨Z, hr, hbz, rfl, yl⟩ := fin (some (.exit id)) Y k3
          exact ⟨_, _, hr, hKp' (xw.trans (p3.trans (kq_put _ _ _ _ (by omega) yl rfl))), .inr ⟨rfl, _, put (hIx _) i3 yl rfl, hbz⟩⟩
        | goto t =>
          obtain ⟨k3, p3, i3⟩ := hp
          obtain ⟨Z, hr, hbz, rfl, yl⟩ := fin (some (.goto t)) Y k3
          exact ⟨_, _, hr, hKp' (xw.trans (p3.trans (kq_put _ _ _ _ (by omega) yl rfl))), .inr ⟨rfl, _, put (hIx _) i3 yl rfl, hbz⟩⟩
        | panic ch => exact hp.elim
        | outgrown => exact hp.elim
      | panic ch => exact hK.elim
      | outgrown => exact hK.elim
      | ret => exact hK.elim
      | exit id => exact hK.elim
      | goto t => exact hK.elim
    · rintro e Y ⟨⟨v, rfl⟩, O, ys, (⟨hs, hi, hb⟩ | ⟨hs, c, hi, hb⟩)⟩
      · rw [hBk] at hb
        have hl : Y.heap[L]? = some (.loop (rec .ready none)) := hb.1.1
        exact ⟨none, _, by have := run_endLoop (P := P) hl (by rw [hrec]; simp); rw [hrec] at this; exact this, hdone _ O ys _ (by omega) hb.2.2 hs (put hI hi hl rfl) ((World.putObj_heap_other (by omega)).trans hb.1.2)⟩
      · rw [hBk] at hb
        have hl : Y.heap[L]? = some (.loop (rec .done (some c))) := hb.1.1
        exact ⟨some c, _, by have := run_endLoop (P := P) hl (by rw [hrec]; simp); rw [hrec] at this; exact this, hstop _ c O ys _ (by omega) hb.2.2 hs (put (hIx c) hi hl rfl) ((World.putObj_heap_other (by omega)).trans hb.1.2)⟩
theorem Stb.base {β : Type} {B : Nat} {J : Own → β → World → Prop} (h : Stb B J) (X : Own) : Stb B (fun O s A => J (fun k => O k ∨ X k) s A) :=
  ⟨fun O O' s A hO hj => h.sub _ _ _ _ (fun k e => e.imp_left (hO k)) hj, fun O s A o hj => h.sub _ _ _ _ (fun k e => e.elim (fun e => e.elim (fun e => .inl (.inl e)) .inr) (fun e => .inl (.inr e))) (h.alloc _ _ _ o hj),
   fun O s A k v hj hk => h.set _ _ _ _ _ hj (.inl hk), fun O s A A' row hj hg hr => h.walk _ _ _ _ _ hj hg hr, fun O s A A' hj hg => h.sub _ _ _ _ (fun k e => e.elim (fun e => e.elim (fun e => .inl (.inl e)) .inr) (fun e => .inl (.inr e))) (h.turn _ _ _ _ hj (hg.mono (fun _ _ e => .inl e)))⟩
theorem Stb.row {β : Type} {B : Nat} {J : Own → β → World → Prop} (h : Stb B J) (b : Nat) (t : TypeId) (cs : β → Array Value) : Stb B (fun O s A => J O s A ∧ Row A b t (cs s) ∧ ¬ O b) :=
  ⟨fun O O' s A hO hj => ⟨h.sub _ _ _ _ hO hj.1, hj.2.1, fun e => hj.2.2 (hO _ e)⟩, fun O s A o hj => ⟨h.alloc _ _ _ o hj.1, hj.2.1.alloc o, fun e => e.elim hj.2.2 (fun e => by have := hj.2.1.lt; omega)⟩,
   fun O s A k v hj hk => ⟨h.set _ _ _ _ _ hj.1 hk, (heap_setCell_other _ _ b v (fun e => hj.2.2 (e ▸ hk))).trans hj.2.1, hj.2.2⟩, fun O s A A' row hj hg hr => ⟨h.walk _ _ _ _ _ hj.1 hg hr, row_kept' hj.2.1 hg (fun x e => (hr x e).2), hj.2.2⟩, fun O s A A' hj hg => ⟨h.turn _ _ _ _ hj.1 hg, hj.2.1.turns hg hj.2.2, fun e => e.elim hj.2.2 (fun e => by have := hj.2.1.lt; omega)⟩⟩
theorem Stb.pure {β : Type} {B : Nat} {J : Own → β → World → Prop} (h : Stb B J) (p : β → Prop) : Stb B (fun O s A => p s ∧ J O s A) :=
  ⟨fun O O' s A hO hj => ⟨hj.1, h.sub _ _ _ _ hO hj.2⟩, fun O s A o hj => ⟨hj.1, h.alloc _ _ _ o hj.2⟩, fun O s A k v hj hk => ⟨hj.1, h.set _ _ _ _ _ hj.2 hk⟩, fun O s A A' row hj hg hr => ⟨hj.1, h.walk _ _ _ _ _ hj.2 hg hr⟩, fun O s A A' hj hg => ⟨hj.1, h.turn _ _ _ _ hj.2 hg⟩⟩
theorem Stb.or {β : Type} {B : Nat} {J K : Own → β → World → Prop} (h : Stb B J) (k : Stb B K) : Stb B (fun O s A => J O s A ∨ K O s A) :=
  ⟨fun O O' s A hO hj => hj.imp (h.sub _ _ _ _ hO) (k.sub _ _ _ _ hO), fun O s A o hj => hj.imp (h.alloc _ _ _ o) (k.alloc _ _ _ o), fun O s A i v hj hk => hj.imp (fun x => h.set _ _ _ _ _ x hk) (fun x => k.set _ _ _ _ _ x hk), fun O s A A' row hj hg hr => hj.imp (fun x => h.walk _ _ _ _ _ x hg hr) (fun x => k.walk _ _ _ _ _ x hg hr), fun O s A A' hj hg => hj.imp (fun x => h.turn _ _ _ _ x hg) (fun x => k.turn _ _ _ _ x hg)⟩
theorem Stb.ex {β γ : Type} {B : Nat} {J : γ → Own → β → World → Prop} (h : ∀ c, Stb B (J c)) : Stb B (fun O s A => ∃ c, J c O s A) :=
  ⟨fun O O' s A hO ⟨c, hj⟩ => ⟨c, (h c).sub _ _ _ _ hO hj⟩, fun O s A o ⟨c, hj⟩ => ⟨c, (h c).alloc _ _ _ o hj⟩, fun O s A k v ⟨c, hj⟩ hk => ⟨c, (h c).set _ _ _ _ _ hj hk⟩, fun O s A A' row ⟨c, hj⟩ hg hr => ⟨c, (h c).walk _ _ _ _ _ hj hg hr⟩, fun O s A A' ⟨c, hj⟩ hg => ⟨c, (h c).turn _ _ _ _ hj hg⟩⟩
/-- What holds of a function of what came. -/
theorem Stb.at {β γ : Type} {B : Nat} {J : Own → β → World → Prop} (h : Stb B J) (f : γ → β) : Stb B (fun O s A => J O (f s) A) :=
  ⟨fun O O' s A hO hj => h.sub _ _ _ _ hO hj, fun O s A o hj => h.alloc _ _ _ o hj, fun O s A k v hj hk => h.set _ _ _ _ _ hj hk, fun O s A A' row hj hg hr => h.walk _ _ _ _ _ hj hg hr, fun O s A A' hj hg => h.turn _ _ _ _ hj hg⟩
theorem Stb.no {β : Type} {B : Nat} : Stb B (fun (_ : Own) (_ : β) (_ : World) => False) := ⟨fun _ _ _ _ _ h => h, fun _ _ _ _ h => h, fun _ _ _ _ _ h _ => h, fun _ _ _ _ _ h _ _ => h, fun _ _ _ _ h _ => h⟩
/-- The world grew; nothing old moved. -/
theorem Stb.grow {β : Type} {B : Nat} {J : Own → β → World → Prop} (h : Stb B J) {O : Own} {s : β} {A A' : World} (hj : J O s A) (hb : Below A.heap.size A A') : J O s A' := h.walk _ _ _ _ none hj (grown_of_below hb) (fun r e => by cases e)
theorem Stb.put {β : Type} {B : Nat} {J : Own → β → World → Prop} (h : Stb B J) {O : Own} {s : β} {A : World} {l : Nat} {o : Obj} (o' : Obj) (hj : J O s A) (hl : B ≤ l) (ho : A.heap[l]? = some o) (hc : o.isCells = false) : J O s (A.putObj l o') :=
  h.walk _ _ _ _ _ hj (grownBy_putObj' A l o') (fun r e => by injection e with e; subst e; exact ⟨hl, _, ho, hc⟩)
/-- The old things that are read lie as they did, and are not owned. -/
def KeepO (P : Own) (w : World) (O : Own) (A : World) : Prop := Hold P w A ∧ ∀ k, P k → ¬ O k
/-- Blocks of cells. -/
def Cells (P : Own) (w : World) : Prop := ∀ k, P k → ∃ cs t, w.heap[k]? = some (.cells cs t)
theorem Cells.lt {P : Own} {w : World} (h : Cells P w) {k : Nat} (hk : P k) : k < w.heap.size := by
  obtain ⟨cs, t, e⟩ := h k hk
  exact (Array.getElem?_eq_some_iff.1 e).1
theorem Cells.hold {P : Own} {w W : World} (h : Cells P w) (hb : Hold P w W) : Cells P W := fun k hk => by
  obtain ⟨cs, t, e⟩ := h k hk
  exact ⟨cs, t, hb.2 k cs t hk e⟩
theorem Stb.keep {β : Type} {B : Nat} {J : Own → β → World → Prop} (h : Stb B J) {P : Own} {w : World} (hP : Cells P w) : Stb B (fun O s A => J O s A ∧ KeepO P w O A) :=
  ⟨fun O O' s A hO hj => ⟨h.sub _ _ _ _ hO hj.1, hj.2.1, fun k hk e => hj.2.2 k hk (hO k e)⟩,
   fun O s A o hj => ⟨h.alloc _ _ _ o hj.1, hj.2.1.trans (Hold.below ((Below.refl _ A).alloc (Nat.le_refl _) _)), fun k hk e => e.elim (hj.2.2 k hk) (fun e => by have := hP.lt hk; have := hj.2.1.1; omega)⟩,
   fun O s A k v hj hk => ⟨h.set _ _ _ _ _ hj.1 hk, hj.2.1.set (fun e => hj.2.2 k e hk) 0 v, hj.2.2⟩,
   fun O s A A' row hj hg hr => ⟨h.walk _ _ _ _ _ hj.1 hg hr, ⟨Nat.le_trans hj.2.1.1 hg.size, fun k cs t hk hc => row_kept' (t := t) (cs := cs) (hj.2.1.2 k cs t hk hc) hg (fun x e => (hr x e).2)⟩, hj.2.2⟩,
   fun O s A A' hj hg => ⟨h.turn _ _ _ _ hj.1 hg, ⟨Nat.le_trans hj.2.1.1 hg.size, fun k cs t hk hc => (hg.block k (Array.getElem?_eq_some_iff.1 (hj.2.1.2 k cs t hk hc)).1 (hj.2.2 k hk)).trans (hj.2.1.2 k cs t hk hc)⟩, fun k hk e => e.elim (hj.2.2 k hk) (fun e => by have := hP.lt hk; have := hj.2.1.1; omega)⟩⟩
def enc2 (p : Int × Int) : Array Value := #[.int .i64 p.1, .int .i64 p.2]
theorem wpIn_rangeTel_br {F : Fence} {n : Nat} {P : Program} {α : Type} {g : Operand} {ps : Array Tmp} {assign body : Code} {Q : Exit → Act → World → Prop} {a : Act} {w : World}
    (hro : F.round = none) (h1 : 1 ≤ n) {gf : Nat} {lb : Array Value} (hg : a.eval g = .func (.func gf) #[] lb) (hFg : F.fn gf) (eg : ∀ args w, (callFunc gf args).run P w = .ok (.enter gf args) w)
    {encs : α → Array Value} {KP : Own} {d : Nat} {S : Bool → List α → Prop} {G : List α → α → Prop} {w0 : World} (hseq : Tel d F (n - 1) P gf lb encs KP S G w0)
    (hb0 : Hold KP w0 w) (hps : ∀ x, (encs x).size = ps.size) (id : Nat) (hQ : ∀ a W, Q .normal a W → Q (.exit id) a W)
    (I Ix : Own → List α → World → Prop) (hI : Stb w.heap.size I) (hIx : Stb w.heap.size Ix) (h0 : I (fun _ => False) [] w)
    (hround : ∀ (l : Nat) (O : Own) (pre : List α) (x : α) (W : World), w.heap.size ≤ l → I O pre W → G pre x → w.heap.size + 2 ≤ W.heap.size →
      assign.wpIn (F.inRound l) (n - 1 - d) P (Exit.then (fun a' W' => KeepsFrom w.heap.size W W' ∧ Kq KP O (w.heap.size + 2) W W' ∧ ∀ o o' : Obj, o.isCells = false → W'.heap[l]? = some o → body.wpIn (F.inRound l) (n - 1 - d) P (Left w.heap.size (Kq KP O (w.heap.size + 2)) (I O) (fun c xs W => c = .exit id ∧ Ix O xs W) (pre ++ [x]) (W'.putObj l o')) a' (W'.putObj l o')) (fun _ _ _ => False))
        { tmps := (ps.zip (encs x)).foldl (fun t (p, v) => t.setIfInBounds p v) a.tmps, defers := [] } W)
    (hrest : ∀ (D : Nat) (O : Own) (xs : List α) (W : World), w.heap.size ≤ D → ¬ O D → ((S true xs ∧ I O xs W) ∨ (S false xs ∧ Ix O xs W)) → W.heap[D]? = some (.deferred (some [])) → Q .normal { a with defers := { target := .collected D, args := #[] } :: a.defers } W) :
    (Code.rangeFunc g ps assign body).wpIn F n P Q a w :=
  wpIn_rangeTel hro h1 hg hFg eg hseq hb0 hps I (fun c O xs W => c = .exit id ∧ Ix O xs W) hI (fun c => hIx.pure (fun _ => c = .exit id)) h0 hround
    (fun D O xs W hD hO hS hi hK => hrest D O xs W hD hO (.inl ⟨hS, hi⟩) hK)
    (fun D c O xs W hD hO hS hi hK => by
      obtain ⟨rfl, hi⟩ := hi
      exact wpIn_exit (hQ _ _ (hrest D O xs W hD hO (.inr ⟨hS, hi⟩) hK)))
/-- What runs at the end stands. -/
def Dfs (Ds : List Nat) (O : Own) (A : World) : Prop := ∀ D ∈ Ds, A.heap[D]? = some (.deferred (some [])) ∧ ¬ O D
theorem Stb.defs {β : Type} {B : Nat} {J : Own → β → World → Prop} (h : Stb B J) (Ds : List Nat) (hD : ∀ D ∈ Ds, D < B) : Stb B (fun O s A => J O s A ∧ Dfs Ds O A) :=
  ⟨fun O O' s A hO hj => ⟨h.sub _ _ _ _ hO hj.1, fun D hd => ⟨(hj.2 D hd).1, fun e => (hj.2 D hd).2 (hO _ e)⟩⟩,
   fun O s A o hj => ⟨h.alloc _ _ _ o hj.1, fun D hd => ⟨(Below.heap_alloc A _ D (Array.getElem?_eq_some_iff.1 (hj.2 D hd).1).1).trans (hj.2 D hd).1, fun e => e.elim (hj.2 D hd).2 (fun e => by have := (Array.getElem?_eq_some_iff.1 (hj.2 D hd).1).1; omega)⟩⟩,
   fun O s A k v hj hk => ⟨h.set _ _ _ _ _ hj.1 hk, fun D hd => ⟨(heap_setCell_other _ _ D v (fun e => (hj.2 D hd).2 (by have e : D = k := e; rw [e]; exact hk))).trans (hj.2 D hd).1, (hj.2 D hd).2⟩⟩,
   fun O s A A' row hj hg hr => ⟨h.walk _ _ _ _ _ hj.1 hg hr, fun D hd => ⟨(hg.block D (Array.getElem?_eq_some_iff.1 (hj.2 D hd).1).1 (fun e => by have := (hr D e.symm).1; have := hD D hd; omega)).trans (hj.2 D hd).1, (hj.2 D hd).2⟩⟩,
   fun O s A A' hj hg => ⟨h.turn _ _ _ _ hj.1 hg, fun D hd => ⟨(hg.block D (Array.getElem?_eq_some_iff.1 (hj.2 D hd).1).1 (hj.2 D hd).2).trans (hj.2 D hd).1, fun e => e.elim (hj.2 D hd).2 (fun e => by have := (Array.getElem?_eq_some_iff.1 (hj.2 D hd).1).1; omega)⟩⟩⟩
theorem put2 (p r : Tmp) (t : Array Value) (x : Int × Int) : ((#[p, r] : Array Tmp).zip (enc2 x)).foldl (fun t (p, v) => t.setIfInBounds p v) t = (t.setIfInBounds p (.int .i64 x.1)).setIfInBounds r (.int .i64 x.2) := by simp [enc2]
/-- What a range's body keeps: a count in block b; what it reads; what runs at the end. -/
structure Inv (w0 V : World) (b : Nat) (PP : Own) (Ds : List Nat) (O : Own) (cs : Array Value) (A : World) : Prop where
  row : Row A b 3 cs
  nb : ¬ O b
  keep : KeepO PP V O A
  be : Below w0.heap.size w0 A
  ge : ∀ k, O k → w0.heap.size ≤ k
  dfs : ∀ D ∈ Ds, A.heap[D]? = some (.deferred (some [])) ∧ ¬ O D
theorem Stb.be {β : Type} {B : Nat} {J : Own → β → World → Prop} (h : Stb B J) (w0 : World) (hB : w0.heap.size ≤ B) : Stb B (fun O s A => J O s A ∧ Below w0.heap.size w0 A ∧ ∀ k, O k → w0.heap.size ≤ k) :=
  ⟨fun O O' s A hO hj => ⟨h.sub _ _ _ _ hO hj.1, hj.2.1, fun k e => hj.2.2 k (hO k e)⟩,
   fun O s A o hj => ⟨h.alloc _ _ _ o hj.1, hj.2.1.alloc hj.2.1.size _, fun k e => e.elim (hj.2.2 k) (fun e => by have := hj.2.1.size; omega)⟩,
   fun O s A k v hj hk => ⟨h.set _ _ _ _ _ hj.1 hk, hj.2.1.setCell (hj.2.2 k hk) _, hj.2.2⟩,
   fun O s A A' row hj hg hr => ⟨h.walk _ _ _ _ _ hj.1 hg hr, hj.2.1.grown hg hj.2.1.size (fun k e => Nat.le_trans hB (hr k e).1), hj.2.2⟩,
   fun O s A A' hj hg => ⟨h.turn _ _ _ _ hj.1 hg, hg.below hj.2.1 hj.2.1.size (fun k hk e => by have := hj.2.2 k e; omega), fun k e => e.elim (hj.2.2 k) (fun e => by have := hj.2.1.size; omega)⟩⟩
theorem Stb.tr {β : Type} {B : Nat} : Stb B (fun (_ : Own) (_ : β) (_ : World) => True) := ⟨fun _ _ _ _ _ h => h, fun _ _ _ _ h => h, fun _ _ _ _ _ h _ => h, fun _ _ _ _ _ h _ _ => h, fun _ _ _ _ h _ => h⟩
theorem Stb.iff {β : Type} {B : Nat} {J K : Own → β → World → Prop} (h : Stb B J) (e : ∀ O s A, J O s A ↔ K O s A) : Stb B K := by
  have : J = K := by funext O s A; exact propext (e O s A)
  rwa [this] at h
theorem inv_stb {β : Type} {w0 V : World} (b : Nat) (f : β → Array Value) {PP : Own} (hP : Cells PP V) {Ds : List Nat} (hD : ∀ D ∈ Ds, D < V.heap.size) (hB : w0.heap.size ≤ V.heap.size) : Stb V.heap.size (fun O (s : β) A => Inv w0 V b PP Ds O (f s) A) :=
  (((((Stb.tr (β := β) (B := V.heap.size)).row b 3 f).keep hP).be w0 hB).defs Ds hD).iff fun O s A =>
    ⟨fun ⟨⟨⟨⟨_, h1, h2⟩, h3⟩, h4, h5⟩, h6⟩ => ⟨h1, h2, h3, h4, h5, h6⟩, fun h => ⟨⟨⟨⟨trivial, h.row, h.nb⟩, h.keep⟩, h.be, h.ge⟩, h.dfs⟩⟩
theorem Inv.store {w0 V : World} {b : Nat} {PP : Own} {Ds : List Nat} {O : Own} {u : Value} {A : World} (h : Inv w0 V b PP Ds O #[u] A) (v : Value) (hb : w0.heap.size ≤ b) (hP : ¬ PP b) : Inv w0 V b PP Ds O #[v] (A.setCell ⟨b, 0, none⟩ v) :=
  ⟨by simpa using h.row.put 0 v, h.nb, ⟨h.keep.1.set hP 0 v, h.keep.2⟩, h.be.setCell hb _, h.ge, fun D hd => ⟨(heap_setCell_other _ _ D v (fun e => by
    have e : D = b := e
    have h1 := (h.dfs D hd).1
    have h2 : A.heap[b]? = some (.cells #[u] 3) := h.row
    rw [e, h2] at h1
    cases h1)).trans (h.dfs D hd).1, (h.dfs D hd).2⟩⟩
theorem kq_below {P O : Own} {B : Nat} {A A' : World} (h : Below A.heap.size A A') : Kq P O B A A' :=
  ⟨⟨h.size, fun k o _ hk _ => (h.block k (Array.getElem?_eq_some_iff.1 hk).1).trans hk⟩, fun k cs t hk _ => (h.block k (Array.getElem?_eq_some_iff.1 hk).1).trans hk⟩
theorem keeps_below {B : Nat} {A A' : World} (h : Below A.heap.size A A') : KeepsFrom B A A' := (kq_below (P := fun _ => False) (O := fun _ => False) h).1
theorem seg_putObj {W : World} {e : TypeId} {size n : Nat} {v : Value} {xs : List Value} {ob : Option Nat} {l : Nat} {o : Obj} (o' : Obj) (h : Seg W e size v n xs ob) (ho : W.heap[l]? = some o) (hc : o.isCells = false) : Seg (W.putObj l o') e size v n xs ob :=
  h.keep fun g hg => by
    subst hg
    obtain ⟨c, hr⟩ := seg_row h
    unfold Row at hr
    refine World.putObj_heap_other (fun e => ?_)
    subst e
    rw [hr] at ho
    cases ho
    cases hc
theorem inv_pure {β : Type} {w0 V : World} (b : Nat) (f : β → Array Value) {PP : Own} (hP : Cells PP V) {Ds : List Nat} (hD : ∀ D ∈ Ds, D < V.heap.size) (hB : w0.heap.size ≤ V.heap.size) (p : β → Prop) : Stb V.heap.size (fun O (s : β) A => p s ∧ Inv w0 V b PP Ds O (f s) A) := (inv_stb b f hP hD hB).pure p
theorem rangeTel_all {F : Fence} {n : Nat} {P : Program} {α : Type} {g : Operand} {ps : Array Tmp} {assign body : Code} {Q : Exit → Act → World → Prop} {a : Act} {w : World}
    (hro : F.round = none) (h1 : 1 ≤ n) {gf : Nat} {lb : Array Value} (hg : a.eval g = .func (.func gf) #[] lb) (hFg : F.fn gf) (eg : ∀ args w, (callFunc gf args).run P w = .ok (.enter gf args) w)
    {encs : α → Array Value} {KP : Own} {d : Nat} {S : Bool → List α → Prop} {G : List α → α → Prop} (hseq : Tel d F (n - 1) P gf lb encs KP S G w)
    (hps : ∀ x, (encs x).size = ps.size)
    (I : Own → List α → World → Prop) (hI : Stb w.heap.size I) (h0 : I (fun _ => False) [] w)
    (hround : ∀ (l : Nat) (O : Own) (pre : List α) (x : α) (W : World), w.heap.size ≤ l → I O pre W → G pre x → w.heap.size + 2 ≤ W.heap.size →
      assign.wpIn (F.inRound l) (n - 1 - d) P (Exit.then (fun a' W' => KeepsFrom w.heap.size W W' ∧ Kq KP O (w.heap.size + 2) W W' ∧ ∀ o o' : Obj, o.isCells = false → W'.heap[l]? = some o → body.wpIn (F.inRound l) (n - 1 - d) P (Left w.heap.size (Kq KP O (w.heap.size + 2)) (I O) (fun _ _ _ => False) (pre ++ [x]) (W'.putObj l o')) a' (W'.putObj l o')) (fun _ _ _ => False))
        { tmps := (ps.zip (encs x)).foldl (fun t (p, v) => t.setIfInBounds p v) a.tmps, defers := [] } W)
    (hdone : ∀ (D : Nat) (O : Own) (xs : List α) (W : World), w.heap.size ≤ D → ¬ O D → S true xs → I O xs W → W.heap[D]? = some (.deferred (some [])) → Q .normal { a with defers := { target := .collected D, args := #[] } :: a.defers } W) :
    (Code.rangeFunc g ps assign body).wpIn F n P Q a w :=
  wpIn_rangeTel hro h1 hg hFg eg hseq (Hold.refl _ _) hps I (fun _ _ _ _ => False) hI (fun _ => Stb.no) h0 hround hdone (fun _ _ _ _ _ _ _ _ h _ => h.elim)
end Go.Proofs.Ytnibmfijkbfaeaa.Om
