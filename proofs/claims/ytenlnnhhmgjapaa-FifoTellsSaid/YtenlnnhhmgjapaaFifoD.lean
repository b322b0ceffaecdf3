/- The law FifoTells: what is kept from round to round. -/
import Derived.Test.YtenlnnhhmgjapaaFifoC
import Derived.Test.YtenlnnhhmgjapaaOpen
import Derived.Test.YtenlnnhhmgjapaaBits
namespace Go.Proofs.Ytenlnnhhmgjapaa.Fifo
open Go.RowKit Go.Proofs.Ytenlnnhhmgjapaa
set_option linter.unusedVariables false

/-- What is in the queue behind so many things. -/
def zsI (f : Nat → Int) (i : Nat) : List Int := (List.range (i - (i - 40))).map fun j => f (i - 40 + j)
theorem zsI_len (f : Nat → Int) (i : Nat) : (zsI f i).length = i - (i - 40) := by simp [zsI]
theorem zsI_get (f : Nat → Int) (i j : Nat) (h : j < (zsI f i).length) : (zsI f i)[j] = f (i - 40 + j) := by simp [zsI]
theorem zsI_less (f : Nat → Int) (i : Nat) (h : i < 40) : zsI f (i + 1) = zsI f i ++ [f i] := by
  unfold zsI
  rw [show i + 1 - (i + 1 - 40) = i + 1 from by omega, show i - (i - 40) = i from by omega, show i + 1 - 40 = 0 from by omega, show i - 40 = 0 from by omega, List.range_succ]
  simp
theorem zsI_more (f : Nat → Int) (i : Nat) (h : 40 ≤ i) : ∃ r, zsI f i = f (i - 40) :: r ∧ zsI f (i + 1) = r ++ [f i] ∧ r.length = 39 := by
  refine ⟨(List.range 39).map fun j => f (i - 40 + (j + 1)), ?_, ?_, by simp⟩
  · unfold zsI
    rw [show i - (i - 40) = 39 + 1 from by omega, List.range_succ_eq_map]
    simp [Function.comp_def]
  · unfold zsI
    rw [show i + 1 - (i + 1 - 40) = 39 + 1 from by omega, List.range_succ]
    simp only [List.map_append, List.map_cons, List.map_nil]
    congr 1
    · apply List.map_congr_left
      intro j _
      congr 1
      omega
    · rw [show i + 1 - 40 + 39 = i from by omega]
structure FJ (w w1 : World) (A : Option Addr) (n c : Nat) (a : Int) (kk : Nat) (zs : List Int) (wr : World) (ob : Option Nat) : Prop where
  ff : Ff wr w1.heap.size 40 zs ob
  kr : Row wr (w1.heap.size + 1) 3 #[.int .i64 kk]
  r0 : Row wr w.heap.size 22 #[.slice A n c]
  r1 : Row wr (w.heap.size + 1) 3 #[.int .i64 a]
  r2 : Row wr (w.heap.size + 2) 4 #[.bool false]
  be : Below w.heap.size w wr
  hob : ∀ g, ob = some g → w1.heap.size + 1 < g
  hz : w.heap.size + 3 ≤ w1.heap.size
theorem FJ.left {w w1 : World} {A : Option Addr} {n c : Nat} {a : Int} {kk : Nat} {zs zs' : List Int} {wr w' : World} {ob : Option Nat} (h : FJ w w1 A n c a kk zs wr ob) (hl : Left wr w1.heap.size 40 zs' ob w') : ∃ ob', FJ w w1 A n c a kk zs' w' ob' := by
  obtain ⟨ob', hf, ht, ho⟩ := hl
  have hz := h.hz
  have hk := h.kr.lt
  have no : ∀ g, g ≤ w1.heap.size + 1 → g ≠ w1.heap.size → ¬ (g = w1.heap.size ∨ ob = some g) := fun g hg hn e => by
    rcases e with e | e
    · exact hn e
    · have := h.hob g e; omega
  refine ⟨ob', hf, h.kr.turns ht (no _ (by omega) (by omega)), h.r0.turns ht (no _ (by omega) (by omega)), h.r1.turns ht (no _ (by omega) (by omega)), h.r2.turns ht (no _ (by omega) (by omega)), ht.below h.be h.be.size (fun k hk e => ?_), fun g hg => ?_, hz⟩
  · exact no k (by omega) (by omega) e
  · rcases ho with e | e | ⟨g', e, hg'⟩
    · exact h.hob g (by rw [← e, hg])
    · rw [e] at hg; cases hg
    · rw [e] at hg; injection hg with hg; omega
theorem FJ.setk {w w1 : World} {A : Option Addr} {n c : Nat} {a : Int} {kk : Nat} {zs : List Int} {wr : World} {ob : Option Nat} (h : FJ w w1 A n c a kk zs wr ob) (k' : Nat) (v : Int) (hv : v = (k' : Int)) :
    FJ w w1 A n c a k' zs (wr.setCell ⟨w1.heap.size + 1, 0, none⟩ (.int .i64 v)) ob := by
  subst hv
  have hz := h.hz
  have ht : Turns wr (wr.setCell ⟨w1.heap.size + 1, 0, none⟩ (.int .i64 (k' : Int))) (fun k => k = w1.heap.size + 1) := (Turns.refl wr _).put _ 0 _ (fun _ => rfl)
  exact ⟨h.ff.turns ht (by omega) (fun k e e2 => by have := h.hob k e; omega), by simpa using Row.put h.kr 0 (.int .i64 (k' : Int)), h.r0.turns ht (by omega), h.r1.turns ht (by omega), h.r2.turns ht (by omega), h.be.setCell (p := ⟨w1.heap.size + 1, 0, none⟩) (by simp; omega) _, h.hob, hz⟩
theorem FJ.mono {w w1 : World} {A : Option Addr} {n c : Nat} {a : Int} {kk : Nat} {zs : List Int} {wr w' : World} {ob : Option Nat} (h : FJ w w1 A n c a kk zs wr ob) (hb : Below wr.heap.size wr w') : FJ w w1 A n c a kk zs w' ob :=
  ⟨h.ff.turns (Turns.of_below hb) (fun h => h) (fun _ _ h => h), h.kr.below hb h.kr.lt, h.r0.below hb h.r0.lt, h.r1.below hb h.r1.lt, h.r2.below hb h.r2.lt, h.be.trans (hb.mono h.be.size), h.hob, h.hz⟩
theorem row_kept {W W' : World} {row : Option Nat} {b : Nat} {t : TypeId} {cs : Array Value} (h : Row W b t cs) (hg : W.grownBy W' row) (hr : ∀ r, row = some r → ∃ o : Obj, W.heap[r]? = some o ∧ o.isCells = false) : Row W' b t cs :=
  h.grown hg (fun e => by
    obtain ⟨o, ho, hc⟩ := hr b e.symm
    unfold Row at h
    rw [h] at ho
    cases ho
    cases hc)
/-- While the things are told. -/
structure TInv (v : World) (R : List Int) (a : Int) (pre : List Int) (W : World) : Prop where
  bx : Row W v.heap.size 3 #[.int .i64 pre.length]
  be : Below v.heap.size v W
  pr : pre <+: R
  le : (pre.length : Int) ≤ a % 64
theorem tinv_own (v : World) (R : List Int) (a : Int) (B : Nat) (hB : v.heap.size ≤ B) : OwnFrom B (TInv v R a) := fun pre W W' row h hg hr =>
  ⟨row_kept h.bx hg (fun r e => (hr r e).2), h.be.grown hg h.be.size (fun k e => Nat.le_trans hB (hr k e).1), h.pr, h.le⟩
structure TOut (v : World) (a : Int) (pre : List Int) (W : World) : Prop where
  bx : Row W v.heap.size 3 #[.int .i64 pre.length]
  be : Below v.heap.size v W
  le : (pre.length : Int) = a % 64 + 1
theorem tout_own (v : World) (a : Int) (B : Nat) (hB : v.heap.size ≤ B) : OwnFrom B (TOut v a) := fun pre W W' row h hg hr =>
  ⟨row_kept h.bx hg (fun r e => (hr r e).2), h.be.grown hg h.be.size (fun k e => Nat.le_trans hB (hr k e).1), h.le⟩
def TLeft (v : World) (R : List Int) (a : Int) (c : Code) (pre : List Int) (W : World) : Prop := (c = .exit 2 ∧ TOut v a pre W) ∨ ¬ pre <+: R
theorem tleft_own (v : World) (R : List Int) (a : Int) (B : Nat) (hB : v.heap.size ≤ B) (c : Code) : OwnFrom B (TLeft v R a c) := fun pre W W' row h hg hr =>
  h.elim (fun h => .inl ⟨h.1, tout_own v a B hB pre W W' row h.2 hg hr⟩) .inr
theorem pre_step {R pre : List Int} {x : Int} (h : pre <+: R) (hk : pre.length < R.length) : (pre ++ [x] <+: R) ↔ R[pre.length] = x := by
  obtain ⟨t, rfl⟩ := h
  cases t with
  | nil => simp at hk
  | cons y t => simp [List.prefix_append_right_inj, List.cons_prefix_cons, eq_comm]
end Go.Proofs.Ytenlnnhhmgjapaa.Fifo
