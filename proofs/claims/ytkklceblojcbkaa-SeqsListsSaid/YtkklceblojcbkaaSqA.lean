/- Iterators that tell nothing. -/
import Derived.Test.YtkklceblojcbkaaTab
import Derived.RangeFuncNested
import Derived.RangeFuncBound
import Derived.RangeFuncCalls
import Derived.RangeFuncLeaves
import Derived.RangeFuncFrom
import Derived.Shelf.Abstract
import Derived.OwnWalkIn
import Derived.TacticsInMore
import Derived.LoopNIn
import Derived.LoopIn
import Derived.Deep.OwnRows
namespace Go.Proofs.Ytkklceblojcbkaa.Sq
open Go.RowKit Go.Proofs.Ytkklceblojcbkaa
set_option linter.unusedVariables false
set_option maxRecDepth 100000
attribute [local go_sem] Oper.semAt_some
/-- An iterator that asks for nothing, whatever it is handed. -/
def Silent (F : Fence) (n : Nat) (f : Nat) (lb : Array Value) (w : World) : Prop := ∀ (fn : Fn) (b1 b2 : Array Value) (W : World), Below w.heap.size w W → CallsIn F n Try.prog f (#[.func fn b1 b2] ++ lb) W fun e W' => (∃ v, e = .returned v) ∧ Below W.heap.size W W'
theorem grown_of_below {w w' : World} (h : Below w.heap.size w w') : w.grownBy w' none := ⟨h.os, h.tape, h.output, h.size, fun k hk _ => h.block k hk⟩
theorem Silent.stops {α : Type} {F : Fence} {n f : Nat} {lb : Array Value} {w : World} {encs : α → Array Value} {Kp : World → World → Prop} (h : Silent F n f lb w) : SeqStopsK F n Try.prog f lb encs Kp (fun ys => ys = []) (fun _ => False) 0 w := fun l J Jx W hW hA hAx hY h0 =>
  (h _ _ _ W hW).mono (fun e W' ⟨hv, hb⟩ => ⟨hv, .inl ⟨[], rfl, hA [] W W' none h0 (grown_of_below hb) (fun r e => by cases e)⟩⟩)
theorem Silent.call {F : Fence} {n f : Nat} {lb : Array Value} {w w' : World} (h : Silent F n f lb w) (hb : Below w.heap.size w w') : Silent F n f lb w' := fun fn b1 b2 W hW => h fn b1 b2 W (hb.trans (hW.mono hb.size))
theorem told_nil (F : Fence) (n : Nat) (hF : F.fn 39) (hro : F.round = none) (B : Nat) (w : World) (hB : B < w.heap.size) (hc : w.cell? ⟨B, 0, none⟩ = some .nilFunc) : Silent F n 39 #[.pointer (some ⟨B, 0, none⟩)] w := fun fn b1 b2 W hW => by
  have c0 : W.cell? ⟨B, 0, none⟩ = some .nilFunc := (hW.cell (p := ⟨B, 0, none⟩) hB).trans hc
  have cA : ∀ o : Obj, (W.alloc o).cell? ⟨B, 0, none⟩ = some .nilFunc := fun o => (((Below.refl W.heap.size W).alloc (Nat.le_refl _) o).cell (p := ⟨B, 0, none⟩) (Nat.lt_of_lt_of_le hB hW.size)).trans c0
  refine callsIn_of_wp Try.func39 rfl hF ?_ hro
  simp only [Try.ntmps39, List.size_toArray, List.length_cons, List.length_nil, Nat.reduceAdd, Nat.reduceSub, Array.replicate_succ, Array.replicate_zero, List.push_toArray, List.append_toArray, List.nil_append, List.cons_append]
  have q : ∀ wx, (binOp .eql 26 .nilFunc .nilFunc).run Try.prog wx = .ok (.bool true) wx := fun wx => by kernel_rfl
  gi_wp2
  refine bodyPost_ret (results_none rfl _ _ _) rfl ?_
  exact ⟨⟨_, rfl⟩, (Below.refl _ W).alloc (Nat.le_refl _) _⟩
/-- A closure over the cell of an iterator that is nil. -/
theorem told_in (F : Fence) (n : Nat) (hF : F.fn 26) (hro : F.round = none) (v : Value) (hv : ∃ a b c, v = .func a b c ∨ v = .nilFunc) (w : World) :
    CallsIn F n Try.prog 26 #[v] w fun e w' => e = .returned (.func (.func 39) #[] #[.pointer (some ⟨w.heap.size, 0, none⟩)]) ∧ w' = w.alloc (.cells #[v] 26) := by
  refine callsIn_of_wp Try.func26 rfl hF ?_ hro
  simp only [Try.ntmps26, List.size_toArray, List.length_cons, List.length_nil, Nat.reduceAdd, Nat.reduceSub, Array.replicate_succ, Array.replicate_zero, List.push_toArray, List.append_toArray, List.nil_append, List.cons_append]
  obtain ⟨a, b, c, rfl | rfl⟩ := hv
  · gi_wp2
    go_ret
    exact ⟨rfl, rfl⟩
  · gi_wp2
    go_ret
    exact ⟨rfl, rfl⟩
/-- A range over what tells nothing. -/
theorem wpIn_range_silent {F : Fence} {n : Nat} {g : Operand} {ps : Array Tmp} {assign body : Code} {Q : Exit → Act → World → Prop} {a : Act} {w : World} (hro : F.round = none) (h1 : 1 ≤ n) {gf : Nat} {lb : Array Value}
    (hg : a.eval g = .func (.func gf) #[] lb) (hFg : F.fn gf) (eg : ∀ args w, (callFunc gf args).run Try.prog w = .ok (.enter gf args) w) (hs : Silent F (n - 1) gf lb w)
    (hdone : ∀ (D : Nat) (W : World), w.heap.size ≤ D → Below w.heap.size w W → W.heap[D]? = some (.deferred (some [])) → Q .normal { a with defers := { target := .collected D, args := #[] } :: a.defers } W) :
    (Code.rangeFunc g ps assign body).wpIn F n Try.prog Q a w := by
  refine wpIn_rangeFunc_ownF hro h1 hg hFg eg (hs.stops (α := Empty) (encs := fun x => x.elim) (Kp := Below w.heap.size)) belowK_t (belowK_b (Nat.le_refl _)) (Below.refl _ _) (fun x => x.elim)
    (fun _ W => Below w.heap.size w W) (fun _ _ _ => False) (ownFrom_below (Nat.le_refl _) (Nat.le_refl _)) (fun _ _ _ _ _ hs _ _ => hs) (Below.refl _ _) (fun x => x.elim) ?_ ?_ ?_ ?_
  · exact fun _ x => x.elim
  · exact fun _ _ x => x.elim
  · exact fun D xs W hD _ hI hK => hdone D W hD hI hK
  · exact fun _ _ _ _ _ _ h _ => h.elim
/-- Take of none tells nothing. -/
theorem take_nil (F : Fence) (n : Nat) (hF : ∀ k, F.fn k) (hro : F.round = none) (hn : 3 ≤ n) (B C : Nat) (k : Int) (w : World) (hB : B < w.heap.size) (hc : w.cell? ⟨B, 0, none⟩ = some (.int .i64 k)) (hC : C < w.heap.size) (hd : w.cell? ⟨C, 0, none⟩ = some .nilFunc) : Silent F n 25 #[.pointer (some ⟨B, 0, none⟩), .pointer (some ⟨C, 0, none⟩)] w := fun fn b1 b2 W hW => by
  have h1 : 1 ≤ n := by omega
  have c0 : W.cell? ⟨B, 0, none⟩ = some (.int .i64 k) := (hW.cell (p := ⟨B, 0, none⟩) hB).trans hc
  have d0 : W.cell? ⟨C, 0, none⟩ = some .nilFunc := (hW.cell (p := ⟨C, 0, none⟩) hC).trans hd
  have hB' : B < W.heap.size := Nat.lt_of_lt_of_le hB hW.size
  have hC' : C < W.heap.size := Nat.lt_of_lt_of_le hC hW.size
  refine callsIn_of_wp_marks Try.func25 rfl (hF _) ?_ hro
  simp only [Try.ntmps25, List.size_toArray, List.length_cons, List.length_nil, Nat.reduceAdd, Nat.reduceSub, Array.replicate_succ, Array.replicate_zero, List.push_toArray, List.append_toArray, List.nil_append, List.cons_append]
  clear hc hd hW
  by_cases hk : k ≤ 0
  · gi_wp2
    exact ⟨_, results_none rfl _ _ _, ⟨_, rfl⟩, (Below.refl _ W).alloc (Nat.le_refl _) _⟩
  · gi_wp2_with (gi_at_call 26; refine (told_in F (n - 1) (hF _) hro .nilFunc ⟨.func 0, #[], #[], .inr rfl⟩ _).mono ?_; rintro e w' ⟨rfl, rfl⟩)
    refine wpIn_range_silent hro h1 rfl (hF _) (enters_of Try.func39 (by kernel_rfl) rfl) (told_nil F (n - 1) (hF _) hro _ _ (by simp) (by have := (Row.made ((W.alloc (.cells #[.func fn b1 b2] 43)).alloc (.cells #[.int .i64 0] 3)) 26 #[.nilFunc]).cell 0; simpa using this)) ?_
    intro D W2 hD hb hK
    have hb0 : Below W.heap.size W W2 := ((((Below.refl _ W).alloc (Nat.le_refl _) _).alloc (by simp) _).alloc (by simp; omega) _).trans (hb.mono (by simp; omega))
    have hDW : W.heap.size ≤ D := by simp at hD; omega
    refine ⟨by simp, .inl ⟨_, _, rfl, run_takeDeferred hK, ?_⟩⟩
    exact ⟨_, results_none rfl _ _ _, ⟨_, rfl⟩, hb0.trans (belowK_b (w := W) (Nat.le_refl _) W2 D _ _ hDW hK rfl rfl)⟩
end Go.Proofs.Ytkklceblojcbkaa.Sq
