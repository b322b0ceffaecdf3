/- Of a list; Count of one; Take of one. -/
import Derived.Test.YtkklceblojcbkaaSqI
namespace Go.Proofs.Ytkklceblojcbkaa.Sq
open Go.RowKit Go.Proofs.Ytkklceblojcbkaa
set_option linter.unusedVariables false
set_option maxRecDepth 100000
attribute [local go_sem] Oper.semAt_some
theorem kp_put {P : Nat → Prop} {m B : Nat} (W : World) (l : Nat) (o o' : Obj) (hB : l < B) (h : W.heap[l]? = some o) (hc : o.isCells = false) : Kp P m B W (W.putObj l o') := ⟨KeepsFrom.of_grownBy (grownBy_putObj' W l o') (fun j e => by injection e with e; omega), fun k cs t hk ht => by
  have hne : k ≠ l := fun e => by subst e; rw [h] at hk; cases hk; cases hc
  exact (World.putObj_heap_other hne).trans hk⟩
theorem kp_set {P : Nat → Prop} {m B : Nat} {X : World} {b : Nat} {t : TypeId} {cs : Array Value} (hr : Row X b t cs) (h1 : t ≠ 4) (h2 : t ≠ 43) (h3 : ¬ P b) (h4 : ¬ (B ≤ b ∧ b < B + m)) (i : Nat) (v : Value) : Kp P m B X (X.setCell ⟨b, i, none⟩ v) := ⟨(KeepsOthers.setCell _ _ _).from _, fun k c2 t2 hk ht => by
  refine (heap_setCell_other _ _ k v (fun e => ?_)).trans hk
  have e : k = b := e
  subst e
  unfold Row at hr
  rw [hr] at hk
  injection hk with hk
  injection hk with _ hk
  subst hk
  rcases ht with e | e | e | e
  · exact h1 e
  · exact h2 e
  · exact h3 e
  · exact h4 e⟩
theorem put1 (p : Tmp) (t : Array Value) (x : Int) : ((#[p] : Array Tmp).zip (enc x)).foldl (fun t (p, v) => t.setIfInBounds p v) t = t.setIfInBounds p (.int .i64 x) := by simp [enc]
theorem Mv.below {m B n0 : Nat} {w A A' : World} (h : Mv m B A A') (hB : n0 ≤ B) (hn : n0 ≤ w.heap.size) (hb : Below n0 w A) : Below n0 w A' := by
  rcases h with ⟨r, hg, hr⟩ | ⟨k, v, cs, h1, h2, rfl⟩ | ⟨k, v, h1, h2, rfl⟩
  · exact hb.grown hg (Nat.le_trans hn hb.size) (fun k e => Nat.le_trans hB (hr k e).1)
  · exact hb.setCell (Nat.le_trans hB h1) _
  · exact hb.setCell (Nat.le_trans hB h1) _
theorem below_put {n0 l : Nat} {w W : World} (hb : Below n0 w W) (hn : n0 ≤ w.heap.size) (hl : n0 ≤ l) (o : Obj) : Below n0 w (W.putObj l o) :=
  hb.grown (grownBy_putObj' W l o) (Nat.le_trans hn hb.size) (fun k e => by injection e with e; omega)
set_option maxHeartbeats 1000000 in
theorem count_of (F : Fence) (n : Nat) (hF : ∀ k, F.fn k) (hro : F.round = none) (hn : 9 ≤ n) (Bn : Nat) (zs : List Int) (A : Option Addr) (cap : Nat) (ob : Option Nat) (w : World) (hz : zs.length ≤ 1000000)
    (hB : w.cell? ⟨Bn, 0, none⟩ = some (.slice A zs.length cap)) (hBn : Bn < w.heap.size) (hS : Seg w 3 1 (.slice A zs.length cap) zs.length (ints zs) ob) :
    CallsIn F n Try.prog 15 #[.func (.func 28) #[] #[.pointer (some ⟨Bn, 0, none⟩)]] w fun e w' => e = .returned (.int .i64 zs.length) ∧ Below w.heap.size w w' := by
  have h1 : 1 ≤ n := by omega
  refine callsIn_of_wp_marks Try.func15 rfl (hF _) ?_ hro
  simp only [Try.ntmps15, List.size_toArray, List.length_cons, List.length_nil, Nat.reduceAdd, Nat.reduceSub, Array.replicate_succ, Array.replicate_zero, List.push_toArray, List.append_toArray, List.nil_append, List.cons_append]
  gi_wp2_with (gi_at_call 26; refine (told_in F (n - 1) (hF _) hro _ ⟨_, _, _, .inl rfl⟩ _).mono ?_; rintro e w' ⟨rfl, rfl⟩)
  obtain ⟨V, hV⟩ : ∃ V, (w.alloc (.cells #[.int .i64 0] 3)).alloc (.cells #[.func (.func 28) #[] #[.pointer (some ⟨Bn, 0, none⟩)]] 26) = V := ⟨_, rfl⟩
  have bV : Below w.heap.size w V := by rw [← hV]; exact ((Below.refl _ w).alloc (Nat.le_refl _) _).alloc (by simp) _
  have sV : V.heap.size = w.heap.size + 2 := by rw [← hV]; simp
  have rC : Row V w.heap.size 3 #[.int .i64 0] := by rw [← hV]; exact (Row.made w _ _).alloc _
  have rS : Row V (w.heap.size + 1) 26 #[.func (.func 28) #[] #[.pointer (some ⟨Bn, 0, none⟩)]] := by
    rw [← hV]; have := Row.made (w.alloc (.cells #[.int .i64 0] 3)) 26 #[.func (.func 28) #[] #[.pointer (some ⟨Bn, 0, none⟩)]]
    rwa [World.size_alloc] at this
  have sS : Seg V 3 1 (.slice A zs.length cap) zs.length (ints zs) ob := hS.keep fun g hg => bV.block g (hS.lt g hg)
  have cB : V.cell? ⟨Bn, 0, none⟩ = some (.slice A zs.length cap) := (bV.cell (p := ⟨Bn, 0, none⟩) hBn).trans hB
  rw [hV]
  have HT := Lib.hid (told1_of F (n - 1) hF hro (by omega) (fun j => ob = some j) (w.heap.size + 1) Bn zs A cap ob V (fun g e => e) hz ((rS.cell 0).trans rfl) (by omega) cB (by omega) sS)
  have hob : ob ≠ some w.heap.size := fun e => by have := hS.lt _ e; omega
  clear hB hS hV rS sS cB
  refine wpIn_rangeTells (m := 0) (d := 3) hro h1 (gf := 39) (lb := #[.pointer (some ⟨w.heap.size + 1, 0, none⟩)]) rfl (hF _) (enters_of Try.func39 (by kernel_rfl) rfl) HT.out
    (Kp := Kp (fun j => ob = some j) 0 (V.heap.size + 2)) (fun h => h) (fun h k => h.trans k) (fun W l o o' _ hB h hc => kp_put W l o o' (by omega) h hc) (Below.refl _ _) (fun _ => rfl)
    (fun pre W => Row W w.heap.size 3 #[.int .i64 pre.length] ∧ Below w.heap.size w W) (fun _ _ _ => False)
    (fun pre A B row h hg hr => ⟨row_kept' h.1 hg (fun x e => (hr x e).2), h.2.grown hg h.2.size (fun k e => by have := (hr k e).1; omega)⟩)
    (fun s A B h t => ⟨t.row (by decide) (by omega) h.1, t.below (by omega) (Nat.le_refl _) h.2⟩) (fun c pre A B row h hg hr => h) (fun c s A B h t => h)
    ⟨rC, bV⟩ ?round ?done ?stop
  case round =>
    intro l pre x W hl hI hnx hsz
    rw [put1]
    simp only [List.setIfInBounds_toArray, List.set_cons_succ, List.set_cons_zero]
    refine wpIn_skip ?_
    refine ⟨(KeepsOthers.refl _).from _, Kp.refl _ _ _ _, fun o o' ho hlo => ?_⟩
    have hI' : Row (W.putObj l o') w.heap.size 3 #[.int .i64 pre.length] := row_kept' hI.1 (grownBy_putObj' W l o') (fun r e => by injection e with e; subst e; exact ⟨o, hlo, ho⟩)
    have hbX : Below w.heap.size w (W.putObj l o') := below_put hI.2 (Nat.le_refl _) (by omega) o'
    generalize W.putObj l o' = X at hI' hbX ⊢
    have x0 : X.cell? ⟨w.heap.size, 0, none⟩ = some (.int .i64 pre.length) := (hI'.cell 0).trans rfl
    have f0 : X.frozen? ⟨w.heap.size, 0, none⟩ = false := frozen_of_row _ _ _ _ _ hI'
    clear hI
    gi_wp2
    have hlen := hnx.length_le
    have e1 : wrap64 ((pre.length : Int) + 1) = ((pre ++ [x]).length : Int) := by
      simp at hlen ⊢
      unfold wrap64; omega
    rw [e1]
    exact ⟨(KeepsOthers.setCell _ _ _).from _, kp_set hI' (by decide) (by decide) hob (by omega) _ _, Row.put hI' 0 _, hbX.setCell (Nat.le_refl _) _⟩
  case done =>
    intro D xs W hD hS hI hK
    have e : xs = zs := hS
    subst e
    have e0 : W.cell? ⟨w.heap.size, 0, none⟩ = some (.int .i64 xs.length) := (hI.1.cell 0).trans rfl
    have hb0 := hI.2
    have hDW : w.heap.size ≤ D := by omega
    clear hI HT
    gi_wp2
    refine ⟨by simp, .inl ⟨_, _, rfl, run_takeDeferred hK, ?_⟩⟩
    exact ⟨_, results_tmp rfl _ _ _, rfl, hb0.trans (belowK_b (w := w) (Nat.le_refl _) W D _ _ hDW hK rfl rfl)⟩
  case stop =>
    intro D c pre W _ _ h
    exact h.elim
end Go.Proofs.Ytkklceblojcbkaa.Sq
