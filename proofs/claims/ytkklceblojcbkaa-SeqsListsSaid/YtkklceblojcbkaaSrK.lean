/- A range whose body may break; the list that a body appends to. -/
import Derived.Test.YtkklceblojcbkaaSrJ
namespace Go.Proofs.Ytkklceblojcbkaa.Sr
open Go.RowKit Go.Proofs.Ytkklceblojcbkaa Go.Proofs.Ytkklceblojcbkaa.Sq
set_option linter.unusedVariables false
set_option maxRecDepth 100000
theorem wpIn_rangeTel_br {F : Fence} {n : Nat} {P : Program} {α : Type} {g : Operand} {ps : Array Tmp} {assign body : Code} {Q : Exit → Act → World → Prop} {a : Act} {w : World}
    (hro : F.round = none) (h1 : 1 ≤ n) {gf : Nat} {lb : Array Value} (hg : a.eval g = .func (.func gf) #[] lb) (hFg : F.fn gf) (eg : ∀ args w, (callFunc gf args).run P w = .ok (.enter gf args) w)
    {encs : α → Array Value} {KP : Own} {d : Nat} {S : Bool → List α → Prop} {G : List α → α → Prop} {w0 : World} (hseq : Tel d F (n - 1) P gf lb encs KP S G w0)
    (hb0 : Hold KP w0 w) (hps : ∀ x, (encs x).size = ps.size) (id : Nat) (hQ : ∀ a W, Q .normal a W → Q (.exit id) a W)
    (I Ix : Own → List α → World → Prop) (hI : Stb w.heap.size I) (hIx : Stb w.heap.size Ix) (h0 : I (fun _ => False) [] w)
    (hround : ∀ (l : Nat) (O : Own) (pre : List α) (x : α) (W : World), w.heap.size ≤ l → I O pre W → G pre x → w.heap.size + 2 ≤ W.heap.size →
      assign.wpIn (F.inRound l) (n - 1 - d) P (Exit.then (fun a' W' => KeepsFrom w.heap.size W W' ∧ Kq KP O (w.heap.size + 2) W W' ∧ ∀ o o' : Obj, o.isCells = false → W'.heap[l]? = some o → body.wpIn (F.inRound l) (n - 1 - d) P (Left w.heap.size (Kq KP O (w.heap.size + 2)) (I O) (fun c xs W => c = .exit id ∧ Ix O xs W) (pre ++ [x]) (W'.putObj l o')) a' (W'.putObj l o')) (fun _ _ _ => False))
        { tmps := (ps.zip (encs x)).foldl (fun t (p, v) => t.setIfInBounds p v) a.tmps, defers := [] } W)
    (hrest : ∀ (D : Nat) (O : Own) (xs : List α) (W : World), w.heap.size ≤ D → ¬ O D → ((S true xs ∧ I O xs W) ∨ (S false xs ∧ Ix O xs W)) → W.heap[D]? = some (.deferred (some [])) → Q .normal { a with defers := { target := .collected D, args := #[] } :: a.defers } W) :
    (Code.rangeFunc g ps assign body).wpIn F n P Q a w :=
  wpIn_rangeTel hro h1 hg hFg eg hseq hb0 hps I (fun c O xs W => c = .exit id ∧ Ix O xs W) hI (fun c => hIx.pure (fun _ => c = .exit id)) h0 hround
    (fun D O xs W hD hO hS hi hK => hrest D O xs W hD hO (.inl ⟨hS, hi⟩) hK)
    (fun D c O xs W hD hO hS hi hK => by
      obtain ⟨rfl, hi⟩ := hi
      exact wpIn_exit (hQ _ _ (hrest D O xs W hD hO (.inr ⟨hS, hi⟩) hK)))
/-- What runs at the end stands. -/
def Dfs (Ds : List Nat) (O : Own) (A : World) : Prop := ∀ D ∈ Ds, A.heap[D]? = some (.deferred (some [])) ∧ ¬ O D
theorem Stb.defs {β : Type} {B : Nat} {J : Own → β → World → Prop} (h : Stb B J) (Ds : List Nat) (hD : ∀ D ∈ Ds, D < B) : Stb B (fun O s A => J O s A ∧ Dfs Ds O A) :=
  ⟨fun O O' s A hO hj => ⟨h.sub _ _ _ _ hO hj.1, fun D hd => ⟨(hj.2 D hd).1, fun e => (hj.2 D hd).2 (hO _ e)⟩⟩,
   fun O s A o hj => ⟨h.alloc _ _ _ o hj.1, fun D hd => ⟨(Below.heap_alloc A _ D (Array.getElem?_eq_some_iff.1 (hj.2 D hd).1).1).trans (hj.2 D hd).1, fun e => e.elim (hj.2 D hd).2 (fun e => by have := (Array.getElem?_eq_some_iff.1 (hj.2 D hd).1).1; omega)⟩⟩,
   fun O s A k v hj hk => ⟨h.set _ _ _ _ _ hj.1 hk, fun D hd => ⟨(heap_setCell_other _ _ D v (fun e => (hj.2 D hd).2 (by have e : D = k := e; rw [e]; exact hk))).trans (hj.2 D hd).1, (hj.2 D hd).2⟩⟩,
   fun O s A A' row hj hg hr => ⟨h.walk _ _ _ _ _ hj.1 hg hr, fun D hd => ⟨(hg.block D (Array.getElem?_eq_some_iff.1 (hj.2 D hd).1).1 (fun e => by have := (hr D e.symm).1; have := hD D hd; omega)).trans (hj.2 D hd).1, (hj.2 D hd).2⟩⟩,
   fun O s A A' hj hg => ⟨h.turn _ _ _ _ hj.1 hg, fun D hd => ⟨(hg.block D (Array.getElem?_eq_some_iff.1 (hj.2 D hd).1).1 (hj.2 D hd).2).trans (hj.2 D hd).1, fun e => e.elim (hj.2 D hd).2 (fun e => by have := (Array.getElem?_eq_some_iff.1 (hj.2 D hd).1).1; omega)⟩⟩⟩
theorem put2 (p r : Tmp) (t : Array Value) (x : Int × Int) : ((#[p, r] : Array Tmp).zip (enc2 x)).foldl (fun t (p, v) => t.setIfInBounds p v) t = (t.setIfInBounds p (.int .i64 x.1)).setIfInBounds r (.int .i64 x.2) := by simp [enc2]
theorem num_snd (l : List Int) : (num l).map Prod.snd = l := by
  refine List.ext_getElem (by simp [num]) fun j h1 h2 => ?_
  simp [num]
theorem lo_push {w : World} {L m : Nat} {O : Own} {X : World} {pre : List Int} {v : Value} {ob : Option Nat} {x : Int} {v2 : Value} {w5 : World} {ob2 : Option Nat} (hL : Lo w L m O X pre v ob) (hLw : w.heap.size ≤ L) (hLm : L < m) (hmX : m ≤ X.heap.size)
    (hs2 : Seg w5 3 1 v2 (pre.length + 1) (ints pre ++ [.int .i64 x]) ob2) (ht2 : Turns (X.alloc (.cells #[.int .i64 x] 3)) w5 (fun k => ob = some k)) (ho2 : ob2 = ob ∨ ∃ g, ob2 = some g ∧ (X.alloc (.cells #[.int .i64 x] 3)).heap.size ≤ g) :
    Lo w L m O (w5.setCell ⟨L, 0, none⟩ v2) (pre ++ [x]) v2 ob2 ∧ (∀ B, KeepsFrom B X (w5.setCell ⟨L, 0, none⟩ v2)) ∧ (∀ PP : Own, (∀ k, PP k → k < m ∧ k ≠ L) → ∀ B, Kq PP O B X (w5.setCell ⟨L, 0, none⟩ v2)) ∧ (∀ k o, k < m → k ≠ L → X.heap[k]? = some o → (w5.setCell ⟨L, 0, none⟩ v2).heap[k]? = some o) := by
  have hap : ob ≠ some L := fun e => by have := (hL.own L e).1; omega
  have r5 := (Row.alloc hL.row (.cells #[.int .i64 x] 3)).turns ht2 hap
  have hx2 : ∀ k o, ob = some k → (X.alloc (.cells #[.int .i64 x] 3)).heap[k]? = some o → ∃ c, o = .cells c 3 := fun k o e h => by
    have hsg := hL.seg.alloc (.cells #[.int .i64 x] 3)
    rw [e] at hsg
    obtain ⟨c', hr'⟩ := seg_row hsg
    unfold Row at hr'
    rw [hr'] at h
    cases h
    exact ⟨_, rfl⟩
  have hcs : ints (pre ++ [x]) = ints pre ++ [.int .i64 x] := by simp [ints]
  have hkf : ∀ B, KeepsFrom B X (w5.setCell ⟨L, 0, none⟩ v2) := fun B => ((KeepsOthers.alloc _ _).from _).trans ((keeps_turns ht2 (fun k o e h => by obtain ⟨c, rfl⟩ := hx2 k o e h; rfl)).trans ((KeepsOthers.setCell _ _ _).from _))
  have hoth : ∀ k o, ob ≠ some k → k ≠ L → X.heap[k]? = some o → (w5.setCell ⟨L, 0, none⟩ v2).heap[k]? = some o := fun k o h1 h2 h => by
    have hk3 : (X.alloc (.cells #[.int .i64 x] 3)).heap[k]? = some o := (Below.heap_alloc X _ k (Array.getElem?_eq_some_iff.1 h).1).trans h
    rw [heap_setCell_other _ _ _ _ h2, ht2.block k (Array.getElem?_eq_some_iff.1 hk3).1 h1]
    exact hk3
  have hnb : ∀ k, k < m → ob ≠ some k := fun k hk e => by have := (hL.own k e).1; omega
  refine ⟨⟨by simpa using r5.put 0 v2, ?_, ?_, hL.ge, fun k e => by have h1 := hL.lt k e; have h2 := ht2.size; simp at h2 ⊢; omega, ?_⟩, hkf, fun PP hPP B => ⟨hkf B, fun k cs t hk ht => ?_⟩, fun k o h1 h2 h => hoth k o (hnb k h1) h2 h⟩
  · rw [hcs, List.length_append]
    refine hs2.past (p := ⟨L, 0, none⟩) (fun e => ?_) _
    have e : ob2 = some L := e
    rcases ho2 with h | ⟨g', h, hg'⟩
    · rw [h] at e; exact hap e
    · rw [h] at e; have e : g' = L := Option.some.inj e; have : L < X.heap.size := hL.row.lt; simp at hg'; omega
  · intro g e
    rcases ho2 with h | ⟨g', h, hg'⟩
    · rw [h] at e; exact hL.own g e
    · rw [h] at e; injection e with e; subst e; simp at hg'
      refine ⟨by omega, fun hO => ?_⟩
      have := hL.lt g' hO
      omega
  · exact (ht2.below (hL.be.alloc hL.be.size _) (by have := hL.be.size; simp; omega) (fun g hg e => by have := (hL.own g e).1; omega)).setCell hLw _
  · refine hoth k _ (fun e => ?_) (fun e => ?_) hk
    · have h7 := hL.own k e
      rcases ht with h | h
      · exact h7.2 h
      · have := (hPP k h).1; omega
    · subst e
      rcases ht with h | h
      · have := hL.ge _ h; omega
      · exact (hPP _ h).2 rfl
end Go.Proofs.Ytkklceblojcbkaa.Sr
