/- A range over what keeps a truth of its own beside (written by gen_sqg out of hp's rule). -/
import Derived.Test.YtkklceblojcbkaaSqA
import Derived.Test.YtkklceblojcbkaaSeg
import Derived.Lib.SliceRun
namespace Go.Proofs.Ytkklceblojcbkaa.Sq
open Go.RowKit Go.Proofs.Ytkklceblojcbkaa
set_option linter.unusedVariables false
/-- What an iterator may do beside its rounds: lay blocks, turn walks, and store a truth into a cell that is newer than its call. -/
def Mv (m B : Nat) (A A' : World) : Prop := (∃ row, A.grownBy A' row ∧ ∀ r, row = some r → B ≤ r ∧ ∃ o : Obj, A.heap[r]? = some o ∧ o.isCells = false) ∨ (∃ k v cs, B ≤ k ∧ A.heap[k]? = some (.cells cs 4) ∧ A' = A.setCell ⟨k, 0, none⟩ v) ∨ (∃ k v, B ≤ k ∧ k < B + m ∧ A' = A.setCell ⟨k, 0, none⟩ v)
theorem Mv.mono {m B B' : Nat} {A A' : World} (h : Mv 0 B' A A') (hB : B ≤ B') : Mv m B A A' := by
  rcases h with ⟨r, hg, hr⟩ | ⟨k, v, cs, h1, h2, h3⟩ | ⟨k, v, h1, h2, h3⟩
  · exact .inl ⟨r, hg, fun x e => ⟨Nat.le_trans hB (hr x e).1, (hr x e).2⟩⟩
  · exact .inr (.inl ⟨k, v, cs, Nat.le_trans hB h1, h2, h3⟩)
  · omega
theorem Mv.block {m B : Nat} {A A' : World} (h : Mv m B A A') {j : Nat} {o : Obj} (hj : j < B) (ho : A.heap[j]? = some o) : A'.heap[j]? = some o := by
  rcases h with ⟨r, hg, hr⟩ | ⟨k, v, cs, h1, h2, rfl⟩ | ⟨k, v, h1, h2, rfl⟩
  · exact (hg.block j (Array.getElem?_eq_some_iff.1 ho).1 (fun e => by have := (hr j e.symm).1; omega)).trans ho
  · exact (heap_setCell_other _ _ j v (by simp; omega)).trans ho
  · exact (heap_setCell_other _ _ j v (by simp; omega)).trans ho
theorem row_kept' {A B : World} {r : Option Nat} {b : Nat} {t : TypeId} {cs : Array Value} (h : Row A b t cs) (hg : A.grownBy B r) (hr : ∀ x, r = some x → ∃ o : Obj, A.heap[x]? = some o ∧ o.isCells = false) : Row B b t cs :=
  Row.grown h hg (fun e => by obtain ⟨o, ho, hc⟩ := hr b e.symm; unfold Row at h; rw [h] at ho; cases ho; cases hc)
/-- A row of another type stands. -/
theorem Mv.row {m B : Nat} {A A' : World} (h : Mv m B A A') {b : Nat} {t : TypeId} {cs : Array Value} (ht : t ≠ 4) (hb : ¬ (B ≤ b ∧ b < B + m)) (hr : Row A b t cs) : Row A' b t cs := by
  rcases h with ⟨r, hg, hx⟩ | ⟨k, v, c2, h1, h2, rfl⟩ | ⟨k, v, h1, h2, rfl⟩
  · exact row_kept' hr hg (fun x e => (hx x e).2)
  · refine (heap_setCell_other _ _ b v (fun e => ?_)).trans hr
    have e : b = k := e
    subst e
    unfold Row at hr
    rw [hr] at h2
    injection h2 with h2
    injection h2 with _ h2
    exact ht h2
  · refine (heap_setCell_other _ _ b v (fun e => ?_)).trans hr
    have e : b = k := e
    exact hb ⟨by omega, by omega⟩
theorem Mv.seg {m B : Nat} {A A' : World} (h : Mv m B A A') {e : TypeId} {size n : Nat} {v : Value} {xs : List Value} {ob : Option Nat} (ht : e ≠ 4) (hb : ∀ g, ob = some g → ¬ (B ≤ g ∧ g < B + m)) (hs : Seg A e size v n xs ob) : Seg A' e size v n xs ob := by
  obtain ⟨h0, A, cap, hv, h1, h2, h3⟩ := hs
  refine ⟨h0, A, cap, hv, h1, h2, ?_⟩
  rcases h3 with h3 | ⟨g, o2, cur, a1, a2, a3, a4, a5⟩
  · exact .inl h3
  · exact .inr ⟨g, o2, cur, a1, a2, h.row ht (hb g a2) a3, a4, a5⟩
def Stab {β : Type} (m B : Nat) (J : β → World → Prop) : Prop := ∀ s A A', J s A → Mv m B A A' → J s A'
/-- An iterator of that kind; a round keeps Kp; c says whether it has ended of itself. -/
def Tells {α : Type} (m d : Nat) (F : Fence) (n : Nat) (P : Program) (g : Nat) (lb : Array Value) (encs : α → Array Value) (Kp : Nat → World → World → Prop) (S : Bool → List α → Prop) (G : List α → α → Prop) (w : World) : Prop :=
  ∀ (l : Nat) (J Jx : List α → World → Prop) (W : World), Below w.heap.size w W → Stab m W.heap.size J → Stab m W.heap.size Jx →
    (∀ pre x W1, J pre W1 → G pre x → W.heap.size + 2 ≤ W1.heap.size → YieldAt F (n - d) P l (encs x) W1 fun e W' => Kp W.heap.size W1 W' ∧ ((e = .returned (.bool true) ∧ J (pre ++ [x]) W') ∨ (e = .returned (.bool false) ∧ Jx (pre ++ [x]) W'))) →
    J [] W → CallsIn F n P g (#[.func (.yield l) #[] #[]] ++ lb) W fun e W' => (∃ v, e = .returned v) ∧ ∃ ys, (S true ys ∧ J ys W') ∨ (S false ys ∧ Jx ys W')
/-- How a round's body may be left. -/
def Left {α : Type} (B : Nat) (Kp : World → World → Prop) (I : List α → World → Prop) (Ix : Code → List α → World → Prop) (xs : List α) (W : World) : Exit → Act → World → Prop
  | .normal, _, W' => KeepsFrom B W W' ∧ Kp W W' ∧ I xs W'
  | .ret, _, W' => KeepsFrom B W W' ∧ Kp W W' ∧ Ix .ret xs W'
  | .exit id, _, W' => KeepsFrom B W W' ∧ Kp W W' ∧ Ix (.exit id) xs W'
  | .goto t, _, W' => KeepsFrom B W W' ∧ Kp W W' ∧ Ix (.goto t) xs W'
  | .panic _, _, _ => False
  | .outgrown, _, _ => False
theorem wpIn_rangeTells {F : Fence} {n : Nat} {P : Program} {α : Type} {g : Operand} {ps : Array Tmp} {assign body : Code} {Q : Exit → Act → World → Prop} {a : Act} {w : World}
    (hro : F.round = none) (h1 : 1 ≤ n) {gf : Nat} {lb : Array Value} (hg : a.eval g = .func (.func gf) #[] lb) (hFg : F.fn gf) (eg : ∀ args w, (callFunc gf args).run P w = .ok (.enter gf args) w)
    {encs : α → Array Value} {Kp0 : Nat → World → World → Prop} {Kp : World → World → Prop} {m d : Nat} {S : Bool → List α → Prop} {G : List α → α → Prop} {w0 : World} (hseq : Tells m d F (n - 1) P gf lb encs Kp0 S G w0)
    (hKp : ∀ {A B : World}, Kp A B → Kp0 (w.heap.size + 2) A B)
    (hKt : ∀ {A B C : World}, Kp A B → Kp B C → Kp A C) (hKb : ∀ (W : World) (l : Nat) (o o' : Obj), w.heap.size ≤ l → l < w.heap.size + 2 → W.heap[l]? = some o → o.isCells = false → Kp W (W.putObj l o')) (hb0 : Below w0.heap.size w0 w) (hps : ∀ x, (encs x).size = ps.size)
    (I : List α → World → Prop) (Ix : Code → List α → World → Prop) (hI : OwnFrom w.heap.size I) (hIT : Stab m (w.heap.size + 2) I) (hIx : ∀ c, OwnFrom w.heap.size (Ix c)) (hIxT : ∀ c, Stab m (w.heap.size + 2) (Ix c)) (h0 : I [] w)
    (hround : ∀ (l : Nat) (pre : List α) (x : α) (W : World), w.heap.size ≤ l → I pre W → G pre x → w.heap.size + 4 ≤ W.heap.size →
      assign.wpIn (F.inRound l) (n - 1 - d) P (Exit.then (fun a' W' => KeepsFrom w.heap.size W W' ∧ Kp W W' ∧ ∀ o o' : Obj, o.isCells = false → W'.heap[l]? = some o → body.wpIn (F.inRound l) (n - 1 - d) P (Left w.heap.size Kp I Ix (pre ++ [x]) (W'.putObj l o')) a' (W'.putObj l o')) (fun _ _ _ => False))
        { tmps := (ps.zip (encs x)).foldl (fun t (p, v) => t.setIfInBounds p v) a.tmps, defers := [] } W)
    (hdone : ∀ (D : Nat) (xs : List α) (W : World), w.heap.size ≤ D → S true xs → I xs W → W.heap[D]? = some (.deferred (some [])) → Q .normal { a with defers := { target := .collected D, args := #[] } :: a.defers } W)
    (hstop : ∀ (D : Nat) (c : Code) (pre : List α) (W : World), w.heap.size ≤ D → S false pre → Ix c pre W → W.heap[D]? = some (.deferred (some [])) → c.wpIn F n P Q { a with defers := { target := .collected D, args := #[] } :: a.defers } W) :
    (Code.rangeFunc g ps assign body).wpIn F n P Q a w := by
  refine wpIn_rangeFunc fun fn hfn => ?_
  rw [hro]
  obtain ⟨D, hD⟩ : ∃ D, w.heap.size = D := ⟨_, rfl⟩
  obtain ⟨L, hL⟩ : ∃ L, D + 1 = L := ⟨_, rfl⟩
  obtain ⟨rec, hrec⟩ : ∃ rec : LoopState → Option Code → Loop, rec = fun st pe => { state := st, pending := pe, fn, tmps := a.tmps, params := ps, assign, body, defers := D } := ⟨_, rfl⟩
  obtain ⟨V, hV⟩ : ∃ V, (w.alloc (.deferred (some []))).alloc (.loop (rec .ready none)) = V := ⟨_, rfl⟩
  have eL : V.heap[L]? = some (.loop (rec .ready none)) := by
    have := World.alloc_heap_new (w.alloc (.deferred (some []))) (.loop (rec .ready none))
    rw [World.size_alloc, hD, hL, hV] at this
    exact this
  have eD : V.heap[D]? = some (.deferred (some [])) := by
    have h1 := World.alloc_heap_new w (.deferred (some []))
    rw [hD] at h1
    have := (Below.heap_alloc (w.alloc (.deferred (some []))) (.loop (rec .ready none)) D (by rw [World.size_alloc]; omega)).trans h1
    rw [hV] at this
    exact this
  have iV : I [] V := by rw [← hV]; exact hI.alloc _ (hI.alloc _ h0)
  have sV : V.heap.size = w.heap.size + 2 := by rw [← hV]; simp
  have hKp' : ∀ {A B : World}, Kp A B → Kp0 V.heap.size A B := fun h => by rw [sV]; exact hKp h
  have bV : Below w0.heap.size w0 V := by
    rw [← hV]; exact hb0.trans ((((Below.refl _ w).alloc (Nat.le_refl _) _).alloc (by simp) _).mono hb0.size)
  have nV : L < V.heap.size := (Array.getElem?_eq_some_iff.1 eL).1
  have nW : w.heap.size ≤ V.heap.size := by omega
  -- what the books say
  obtain ⟨Bk, hBk⟩ : ∃ Bk : Option Code → World → Prop, Bk = fun pe W => W.heap[L]? = some (.loop (rec (if pe.isNone then .ready else .done) pe)) ∧ W.heap[D]? = some (.deferred (some [])) := ⟨_, rfl⟩
  have sB : ∀ pe A B, Bk pe A → Mv m V.heap.size A B → Bk pe B := fun pe A B h t => by rw [hBk] at h ⊢; exact ⟨t.block nV h.1, t.block (by omega) h.2⟩
  refine ⟨L, [{ target := .collected D, args := #[] }], V, { target := .fn (.func gf) lb, args := #[.func (.yield L) #[] #[]] }, V, gf, #[.func (.yield L) #[] #[]] ++ lb, V, ?_, ?_, ?_, ?_, fun _ => h1, ?_⟩
  · have := run_enterLoop_outer (P := P) (w := w) fn a.tmps ps assign body
    rw [hD] at this
    rw [← hV, hrec, ← hL]
    exact this
  · simp only [resolve, hg]
    simp [go_sem]
  · intro f' hf'; simp [Target.leads] at hf'; subst hf'; exact hFg
  · simp [invoke, go_sem, eg]
  · refine (hseq L (fun pre W => I pre W ∧ Bk none W) (fun pre W => ∃ c, Ix c pre W ∧ Bk (some c) W) V bV (fun s A B h t => ⟨hIT s A B h.1 (by rw [← sV]; exact t), sB _ A B h.2 t⟩)
      (fun s A B h t => by obtain ⟨c, h1, h2⟩ := h; exact ⟨c, hIxT c s A B h1 (by rw [← sV]; exact t), sB _ A B h2 t⟩) ?_ ⟨iV, by rw [hBk]; exact ⟨eL, eD⟩⟩).mono ?_
    · rintro pre x W ⟨hi, hb⟩ hlen hsz
      rw [hBk] at hb
      obtain ⟨hl, hk⟩ := hb
      have hl : W.heap[L]? = some (.loop (rec .ready none)) := hl
      have hy := run_yield (P := P) (args := encs x) hl (by rw [hrec]; exact hps x)
      rw [hrec] at hy
      refine ⟨fn, _, assign, body, hy, roundIn_of_wpIn hfn (wpIn_mono (hround L pre x W (by omega) hi hlen (by omega)) ?_)⟩
      intro e0 a' W' hK
      cases e0 with
      | normal =>
        obtain ⟨k1, p1, hbody⟩ := hK
        have hl' := k1.same _ _ (by omega) hl rfl
        have hk' := k1.same _ _ (by omega) hk rfl
        have hlt : L < W'.heap.size := (Array.getElem?_eq_some_iff.1 hl').1
        refine ⟨_, run_beginRound hl' (by rw [hrec]), ?_⟩
        have hbody := hbody _ (.loop { rec .ready none with state := .busy }) rfl hl'
        obtain ⟨X, hX⟩ : ∃ X, W'.putObj L (.loop { rec .ready none with state := .busy }) = X := ⟨_, rfl⟩
        have xl : X.heap[L]? = some (.loop { rec .ready none with state := .busy }) := by rw [← hX]; exact World.putObj_heap_same hlt
        have xk : X.heap[D]? = some (.deferred (some [])) := by rw [← hX]; exact (World.putObj_heap_other (by omega)).trans hk'
        have xw : Kp W X := by rw [← hX]; exact hKt p1 (hKb _ _ _ _ (by omega) (by omega) hl' rfl)
        rw [hX] at hbody ⊢
        refine wpIn_mono hbody ?_
        have fin : ∀ (jump : Option Code) (Y : World), KeepsFrom w.heap.size X Y → ∃ Z, (Instr.endRound L jump).run P Y = .ok (.bool jump.isNone) Z ∧ Bk jump Z ∧ Z = Y.putObj L (.loop (rec (if jump.isNone then .ready else .done) jump)) ∧ Y.heap[L]? = some (.loop { rec .ready none with state := .busy }) := fun jump Y hk3 => by
          have yl := hk3.same _ _ (by omega) xl rfl
          have yk := hk3.same _ _ (by omega) xk rfl
          have hr := run_endRound (P := P) jump yl
          refine ⟨_, by rw [hrec] at hr ⊢; exact hr, ?_, rfl, yl⟩
          rw [hBk]
          exact ⟨World.putObj_heap_same (Array.getElem?_eq_some_iff.1 yl).1, (World.putObj_heap_other (by omega)).trans yk⟩
        rintro e a3 Y hp
        cases e with
        | normal =>
          obtain ⟨k3, p3, i3⟩ := hp
          obtain ⟨Z, hr, hbz, rfl, yl⟩ := fin none Y k3
          exact ⟨_, _, hr, hKp' (hKt xw (hKt p3 (hKb _ _ _ _ (by omega) (by omega) yl rfl))), .inl ⟨rfl, hI.putObj _ i3 (by omega) yl rfl, hbz⟩⟩
        | ret =>
          obtain ⟨k3, p3, i3⟩ := hp
          obtain ⟨Z, hr, hbz, rfl, yl⟩ := fin (some .ret) Y k3
          exact ⟨_, _, hr, hKp' (hKt xw (hKt p3 (hKb _ _ _ _ (by omega) (by omega) yl rfl))), .inr ⟨rfl, _, (hIx _).putObj _ i3 (by omega) yl rfl, hbz⟩⟩
        | exit id =>
          obtain ⟨k3, p3, i3⟩ := hp
          obtain ⟨Z, hr, hbz, rfl, yl⟩ := fin (some (.exit id)) Y k3
          exact ⟨_, _, hr, hKp' (hKt xw (hKt p3 (hKb _ _ _ _ (by omega) (by omega) yl rfl))), .inr ⟨rfl, _, (hIx _).putObj _ i3 (by omega) yl rfl, hbz⟩⟩
        | goto t =>
          obtain ⟨k3, p3, i3⟩ := hp
          obtain ⟨Z, hr, hbz, rfl, yl⟩ := fin (some (.goto t)) Y k3
          exact ⟨_, _, hr, hKp' (hKt xw (hKt p3 (hKb _ _ _ _ (by omega) (by omega) yl rfl))), .inr ⟨rfl, _, (hIx _).putObj _ i3 (by omega) yl rfl, hbz⟩⟩
        | panic ch => exact hp.elim
        | outgrown => exact hp.elim
      | panic ch => exact hK.elim
      | outgrown => exact hK.elim
      | ret => exact hK.elim
      | exit id => exact hK.elim
      | goto t => exact hK.elim
    · rintro e Y ⟨⟨v, rfl⟩, ys, (⟨hs, hi, hb⟩ | ⟨hs, c, hi, hb⟩)⟩
      · rw [hBk] at hb
        have hl : Y.heap[L]? = some (.loop (rec .ready none)) := hb.1
        exact ⟨none, _, by have := run_endLoop (P := P) hl (by rw [hrec]; simp); rw [hrec] at this; exact this, hdone _ ys _ (by omega) hs (hI.putObj _ hi (by omega) hl rfl) ((World.putObj_heap_other (by omega)).trans hb.2)⟩
      · rw [hBk] at hb
        have hl : Y.heap[L]? = some (.loop (rec .done (some c))) := hb.1
        exact ⟨some c, _, by have := run_endLoop (P := P) hl (by rw [hrec]; simp); rw [hrec] at this; exact this, hstop _ c ys _ (by omega) hs ((hIx c).putObj _ hi (by omega) hl rfl) ((World.putObj_heap_other (by omega)).trans hb.2)⟩
end Go.Proofs.Ytkklceblojcbkaa.Sq
