/- Ranges over what hands out things that lie in memory. -/
import Derived.Test.YtkklceblojcbkaaSrP
namespace Go.Proofs.Ytkklceblojcbkaa.Sr
open Go.RowKit Go.Proofs.Ytkklceblojcbkaa Go.Proofs.Ytkklceblojcbkaa.Sq
set_option linter.unusedVariables false
/-- An iterator that tells to the body of a range; what holds of a thing that comes may speak of memory. -/
def TelW {α : Type} (d : Nat) (F : Fence) (n : Nat) (P : Program) (g : Nat) (lb : Array Value) (encs : α → Array Value) (KP : Own) (S : Bool → List α → Prop) (G : Own → List α → α → World → Prop) (w : World) : Prop :=
  ∀ (l : Nat) (J Jx : Own → List α → World → Prop) (O0 : Own) (W : World), Hold KP w W → Stb W.heap.size J → Stb W.heap.size Jx → 
    (∀ O pre x W1, J O pre W1 → G O pre x W1 → W.heap.size ≤ W1.heap.size → YieldAt F (n - d) P l (encs x) W1 fun e W' => Kq KP O W.heap.size W1 W' ∧ ((e = .returned (.bool true) ∧ J O (pre ++ [x]) W') ∨ (e = .returned (.bool false) ∧ Jx O (pre ++ [x]) W'))) →
    J O0 [] W → CallsIn F n P g (#[.func (.yield l) #[] #[]] ++ lb) W fun e W' => (∃ v, e = .returned v) ∧ ∃ O ys, (S true ys ∧ J O ys W') ∨ (S false ys ∧ Jx O ys W')
theorem wpIn_rangeTelW {F : Fence} {n : Nat} {P : Program} {α : Type} {g : Operand} {ps : Array Tmp} {assign body : Code} {Q : Exit → Act → World → Prop} {a : Act} {w : World}
    (hro : F.round = none) (h1 : 1 ≤ n) {gf : Nat} {lb : Array Value} (hg : a.eval g = .func (.func gf) #[] lb) (hFg : F.fn gf) (eg : ∀ args w, (callFunc gf args).run P w = .ok (.enter gf args) w)
    {encs : α → Array Value} {KP : Own} {d : Nat} {S : Bool → List α → Prop} {G : Own → List α → α → World → Prop} {w0 : World} (hseq : TelW d F (n - 1) P gf lb encs KP S G w0)
    (hb0 : Hold KP w0 w) (hps : ∀ x, (encs x).size = ps.size)
    (I : Own → List α → World → Prop) (Ix : Code → Own → List α → World → Prop) (hI : Stb w.heap.size I) (hIx : ∀ c, Stb w.heap.size (Ix c)) (h0 : I (fun _ => False) [] w)
    (hround : ∀ (l : Nat) (O : Own) (pre : List α) (x : α) (W : World), w.heap.size ≤ l → I O pre W → G O pre x W → w.heap.size + 2 ≤ W.heap.size →
      assign.wpIn (F.inRound l) (n - 1 - d) P (Exit.then (fun a' W' => KeepsFrom w.heap.size W W' ∧ Kq KP O (w.heap.size + 2) W W' ∧ ∀ o o' : Obj, o.isCells = false → W'.heap[l]? = some o → body.wpIn (F.inRound l) (n - 1 - d) P (Left w.heap.size (Kq KP O (w.heap.size + 2)) (I O) (fun c => Ix c O) (pre ++ [x]) (W'.putObj l o')) a' (W'.putObj l o')) (fun _ _ _ => False))
        { tmps := (ps.zip (encs x)).foldl (fun t (p, v) => t.setIfInBounds p v) a.tmps, defers := [] } W)
    (hdone : ∀ (D : Nat) (O : Own) (xs : List α) (W : World), w.heap.size ≤ D → ¬ O D → S true xs → I O xs W → W.heap[D]? = some (.deferred (some [])) → Q .normal { a with defers := { target := .collected D, args := #[] } :: a.defers } W)
    (hstop : ∀ (D : Nat) (c : Code) (O : Own) (pre : List α) (W : World), w.heap.size ≤ D → ¬ O D → S false pre → Ix c O pre W → W.heap[D]? = some (.deferred (some [])) → c.wpIn F n P Q { a with defers := { target := .collected D, args := #[] } :: a.defers } W) :
    (Code.rangeFunc g ps assign body).wpIn F n P Q a w := by
  refine wpIn_rangeFunc fun fn hfn => ?_
  rw [hro]
  obtain ⟨D, hD⟩ : ∃ D, w.heap.size = D := ⟨_, rfl⟩
  obtain ⟨L, hL⟩ : ∃ L, D + 1 = L := ⟨_, rfl⟩
  obtain ⟨rec, hrec⟩ : ∃ rec : LoopState → Option Code → Loop, rec = fun st pe => { state := st, pending := pe, fn, tmps := a.tmps, params := ps, assign, body, defers := D } := ⟨_, rfl⟩
  obtain ⟨V, hV⟩ : ∃ V, (w.alloc (.deferred (some []))).alloc (.loop (rec .ready none)) = V := ⟨_, rfl⟩
  have eL : V.heap[L]? = some (.loop (rec .ready none)) := by
    have := World.alloc_heap_new (w.alloc (.deferred (some []))) (.loop (rec .ready none))
    rw [World.size_alloc, hD, hL, hV] at this
    exact this
  have eD : V.heap[D]? = some (.deferred (some [])) := by
    have h1 := World.alloc_heap_new w (.deferred (some []))
    rw [hD] at h1
    have := (Below.heap_alloc (w.alloc (.deferred (some []))) (.loop (rec .ready none)) D (by rw [World.size_alloc]; omega)).trans h1
    rw [hV] at this
    exact this
  have iV : I (fun _ => False) [] V := by
    rw [← hV]
    exact hI.walk _ _ _ _ none (hI.walk _ _ _ _ none h0 (grown_of_below ((Below.refl _ w).alloc (Nat.le_refl _) _)) (fun r e => by cases e)) (grown_of_below ((Below.refl _ (w.alloc (.deferred (some [])))).alloc (Nat.le_refl _) _)) (fun r e => by cases e)
  have sV : V.heap.size = w.heap.size + 2 := by rw [← hV]; simp
  have hKp' : ∀ {O : Own} {A B : World}, Kq KP O (w.heap.size + 2) A B → Kq KP O V.heap.size A B := fun h => by rw [sV]; exact h
  have bV : Hold KP w0 V := by
    rw [← hV]; exact hb0.trans (Hold.below (((Below.refl _ w).alloc (Nat.le_refl _) _).alloc (by simp) _))
  have nV : L < V.heap.size := (Array.getElem?_eq_some_iff.1 eL).1
  have nW : w.heap.size ≤ V.heap.size := by omega
  -- what the books say
  obtain ⟨Bk, hBk⟩ : ∃ Bk : Option Code → Own → World → Prop, Bk = fun pe O W => (W.heap[L]? = some (.loop (rec (if pe.isNone then .ready else .done) pe)) ∧ W.heap[D]? = some (.deferred (some []))) ∧ ¬ O L ∧ ¬ O D := ⟨_, rfl⟩
  have sB : ∀ pe (J : Own → List α → World → Prop), Stb w.heap.size J → Stb V.heap.size (fun O pre W => J O pre W ∧ Bk pe O W) := fun pe J hJ => by
    rw [hBk]
    refine ⟨fun O O' s A h k => ⟨hJ.sub _ _ _ _ h k.1, k.2.1, fun e => k.2.2.1 (h _ e), fun e => k.2.2.2 (h _ e)⟩, fun O s A o h => ?_, fun O s A k v h hk => ?_, fun O s A A' row h hg hr => ?_, fun O s A A' h hg => ?_⟩
    · have l1 := (Array.getElem?_eq_some_iff.1 h.2.1.1).1
      have l2 := (Array.getElem?_eq_some_iff.1 h.2.1.2).1
      exact ⟨hJ.alloc _ _ _ _ h.1, ⟨(Below.heap_alloc A _ L l1).trans h.2.1.1, (Below.heap_alloc A _ D l2).trans h.2.1.2⟩, fun e => e.elim h.2.2.1 (fun e => by omega), fun e => e.elim h.2.2.2 (fun e => by omega)⟩
    · exact ⟨hJ.set _ _ _ _ _ h.1 hk, ⟨(heap_setCell_other _ _ L v (fun e => h.2.2.1 (e ▸ hk))).trans h.2.1.1, (heap_setCell_other _ _ D v (fun e => h.2.2.2 (e ▸ hk))).trans h.2.1.2⟩, h.2.2⟩
    · have l1 := (Array.getElem?_eq_some_iff.1 h.2.1.1).1
      have l2 := (Array.getElem?_eq_some_iff.1 h.2.1.2).1
      exact ⟨hJ.walk _ _ _ _ _ h.1 hg (fun r e => ⟨by have := (hr r e).1; omega, (hr r e).2⟩), ⟨(hg.block L l1 (fun e => by have := (hr L e.symm).1; omega)).trans h.2.1.1, (hg.block D l2 (fun e => by have := (hr D e.symm).1; omega)).trans h.2.1.2⟩, h.2.2⟩
    · have l1 := (Array.getElem?_eq_some_iff.1 h.2.1.1).1
      have l2 := (Array.getElem?_eq_some_iff.1 h.2.1.2).1
      exact ⟨hJ.turn _ _ _ _ h.1 hg, ⟨(hg.block L l1 h.2.2.1).trans h.2.1.1, (hg.block D l2 h.2.2.2).trans h.2.1.2⟩, fun e => e.elim h.2.2.1 (fun e => by omega), fun e => e.elim h.2.2.2 (fun e => by omega)⟩
  have sIx : Stb V.heap.size (fun O pre W => ∃ c, Ix c O pre W ∧ Bk (some c) O W) :=
    ⟨fun O O' s A h ⟨c, k⟩ => ⟨c, (sB (some c) (Ix c) (hIx c)).sub _ _ _ _ h k⟩, fun O s A o ⟨c, k⟩ => ⟨c, (sB (some c) (Ix c) (hIx c)).alloc _ _ _ _ k⟩, fun O s A k v ⟨c, h⟩ hk => ⟨c, (sB (some c) (Ix c) (hIx c)).set _ _ _ _ _ h hk⟩, fun O s A A' row ⟨c, h⟩ hg hr => ⟨c, (sB (some c) (Ix c) (hIx c)).walk _ _ _ _ _ h hg hr⟩, fun O s A A' ⟨c, h⟩ hg => ⟨c, (sB (some c) (Ix c) (hIx c)).turn _ _ _ _ h hg⟩⟩
  have put : ∀ {J : Own → List α → World → Prop} {O : Own} {s : List α} {A : World} {o o' : Obj}, Stb w.heap.size J → J O s A → A.heap[L]? = some o → o.isCells = false → J O s (A.putObj L o') := fun {J O s A o o'} hJ h ho hc =>
    hJ.walk _ _ _ _ _ h (grownBy_putObj' A L o') (fun r e => by injection e with e; subst e; exact ⟨by omega, _, ho, hc⟩)
  refine ⟨L, [{ target := .collected D, args := #[] }], V, { target := .fn (.func gf) lb, args := #[.func (.yield L) #[] #[]] }, V, gf, #[.func (.yield L) #[] #[]] ++ lb, V, ?_, ?_, ?_, ?_, fun _ => h1, ?_⟩
  · have := run_enterLoop_outer (P := P) (w := w) fn a.tmps ps assign body
    rw [hD] at this
    rw [← hV, hrec, ← hL]
    exact this
  · simp only [resolve, hg]
    simp [go_sem]
  · intro f' hf'; simp [Target.leads] at hf'; subst hf'; exact hFg
  · simp [invoke, go_sem, eg]
  · refine (hseq L (fun O pre W => I O pre W ∧ Bk none O W) (fun O pre W => ∃ c, Ix c O pre W ∧ Bk (some c) O W) (fun _ => False) V bV (sB none I hI) sIx ?_ ⟨iV, by rw [hBk]; exact ⟨⟨eL, eD⟩, id, id⟩⟩).mono ?_
    · rintro O pre x W ⟨hi, hb⟩ hlen hsz
      rw [hBk] at hb
      obtain ⟨⟨hl, hk⟩, hnl, hnd⟩ := hb
      have hl : W.heap[L]? = some (.loop (rec .ready none)) := hl
      have hy := run_yield (P := P) (args := encs x) hl (by rw [hrec]; exact hps x)
      rw [hrec] at hy
      refine ⟨fn, _, assign, body, hy, roundIn_of_wpIn hfn (wpIn_mono (hround L O pre x W (by omega) hi hlen (by omega)) ?_)⟩
      intro e0 a' W' hK
      cases e0 with
      | normal =>
        obtain ⟨k1, p1, hbody⟩ := hK
        have hl' := k1.same _ _ (by omega) hl rfl
        have hk' := k1.same _ _ (by omega) hk rfl
        have hlt : L < W'.heap.size := (Array.getElem?_eq_some_iff.1 hl').1
        refine ⟨_, run_beginRound hl' (by rw [hrec]), ?_⟩
        have hbody := hbody _ (.loop { rec .ready none with state := .busy }) rfl hl'
        obtain ⟨X, hX⟩ : ∃ X, W'.putObj L (.loop { rec .ready none with state := .busy }) = X := ⟨_, rfl⟩
        have xl : X.heap[L]? = some (.loop { rec .ready none with state := .busy }) := by rw [← hX]; exact World.putObj_heap_same hlt
        have xk : X.heap[D]? = some (.deferred (some [])) := by rw [← hX]; exact (World.putObj_heap_other (by omega)).trans hk'
        have xw : Kq KP O (w.heap.size + 2) W X := by rw [← hX]; exact p1.trans (kq_put _ _ _ _ (by omega) hl' rfl)
        rw [hX] at hbody ⊢
        refine wpIn_mono hbody ?_
        have fin : ∀ (jump : Option Code) (Y : World), KeepsFrom w.heap.size X Y → ∃ Z, (Instr.endRound L jump).run P Y = .ok (.bool jump.isNone) Z ∧ Bk jump O Z ∧ Z = Y.putObj L (.loop (rec (if jump.isNone then .ready else .done) jump)) ∧ Y.heap[L]? = some (.loop { rec .ready none with state := .busy }) := fun jump Y hk3 => by
          have yl := hk3.same _ _ (by omega) xl rfl
          have yk := hk3.same _ _ (by omega) xk rfl
          have hr := run_endRound (P := P) jump yl
          refine ⟨_, by rw [hrec] at hr ⊢; exact hr, ?_, rfl, yl⟩
          rw [hBk]
          exact ⟨⟨World.putObj_heap_same (Array.getElem?_eq_some_iff.1 yl).1, (World.putObj_heap_other (by omega)).trans yk⟩, hnl, hnd⟩
        rintro e a3 Y hp
        cases e with
        | normal =>
          obtain ⟨k3, p3, i3⟩ := hp
          obtain ⟨Z, hr, hbz, rfl, yl⟩ := fin none Y k3
          exact ⟨_, _, hr, hKp' (xw.trans (p3.trans (kq_put _ _ _ _ (by omega) yl rfl))), .inl ⟨rfl, put hI i3 yl rfl, hbz⟩⟩
        | ret =>
          obtain ⟨k3, p3, i3⟩ := hp
          obtain ⟨Z, hr, hbz, rfl, yl⟩ := fin (some .ret) Y k3
          exact ⟨_, _, hr, hKp' (xw.trans (p3.trans (kq_put _ _ _ _ (by omega) yl rfl))), .inr ⟨rfl, _, put (hIx _) i3 yl rfl, hbz⟩⟩
        | exit id =>
          obtain ⟨k3, p3, i3⟩ := hp
          obtain ⟨Z, hr, hbz, rfl, yl⟩ := fin (some (.exit id)) Y k3
          exact ⟨_, _, hr, hKp' (xw.trans (p3.trans (kq_put _ _ _ _ (by omega) yl rfl))), .inr ⟨rfl, _, put (hIx _) i3 yl rfl, hbz⟩⟩
        | goto t =>
          obtain ⟨k3, p3, i3⟩ := hp
          obtain ⟨Z, hr, hbz, rfl, yl⟩ := fin (some (.goto t)) Y k3
          exact ⟨_, _, hr, hKp' (xw.trans (p3.trans (kq_put _ _ _ _ (by omega) yl rfl))), .inr ⟨rfl, _, put (hIx _) i3 yl rfl, hbz⟩⟩
        | panic ch => exact hp.elim
        | outgrown => exact hp.elim
      | panic ch => exact hK.elim
      | outgrown => exact hK.elim
      | ret => exact hK.elim
      | exit id => exact hK.elim
      | goto t => exact hK.elim
    · rintro e Y ⟨⟨v, rfl⟩, O, ys, (⟨hs, hi, hb⟩ | ⟨hs, c, hi, hb⟩)⟩
      · rw [hBk] at hb
        have hl : Y.heap[L]? = some (.loop (rec .ready none)) := hb.1.1
        exact ⟨none, _, by have := run_endLoop (P := P) hl (by rw [hrec]; simp); rw [hrec] at this; exact this, hdone _ O ys _ (by omega) hb.2.2 hs (put hI hi hl rfl) ((World.putObj_heap_other (by omega)).trans hb.1.2)⟩
      · rw [hBk] at hb
        have hl : Y.heap[L]? = some (.loop (rec .done (some c))) := hb.1.1
        exact ⟨some c, _, by have := run_endLoop (P := P) hl (by rw [hrec]; simp); rw [hrec] at this; exact this, hstop _ c O ys _ (by omega) hb.2.2 hs (put (hIx c) hi hl rfl) ((World.putObj_heap_other (by omega)).trans hb.1.2)⟩
end Go.Proofs.Ytkklceblojcbkaa.Sr
