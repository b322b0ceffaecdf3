/- Both of nothing; told, Take, Some, Count of what tells nothing (written by gen_sqc). -/
import Derived.Test.YtkklceblojcbkaaSqB
namespace Go.Proofs.Ytkklceblojcbkaa.Sq
open Go.RowKit Go.Proofs.Ytkklceblojcbkaa
set_option linter.unusedVariables false
set_option maxRecDepth 100000
attribute [local go_sem] Oper.semAt_some
theorem both_nil (F : Fence) (n : Nat) (hF : ∀ k, F.fn k) (hro : F.round = none) (hn : 4 ≤ n) (C : Nat) (B : Nat) (w : World) (hC : C < w.heap.size) (dC : w.cell? ⟨C, 0, none⟩ = some .nilFunc) (hB : B < w.heap.size) (dB : w.cell? ⟨B, 0, none⟩ = some .nilFunc) : Silent F n 30 #[.pointer (some ⟨C, 0, none⟩), .pointer (some ⟨B, 0, none⟩)] w := fun fn b1 b2 W hW => by
  have h1 : 1 ≤ n := by omega
  have cC : W.cell? ⟨C, 0, none⟩ = some .nilFunc := (hW.cell (p := ⟨C, 0, none⟩) hC).trans dC
  have lC : C < W.heap.size := Nat.lt_of_lt_of_le hC hW.size
  have cB : W.cell? ⟨B, 0, none⟩ = some .nilFunc := (hW.cell (p := ⟨B, 0, none⟩) hB).trans dB
  have lB : B < W.heap.size := Nat.lt_of_lt_of_le hB hW.size
  refine callsIn_of_wp_marks Try.func30 rfl (hF _) ?_ hro
  simp only [Try.ntmps30, List.size_toArray, List.length_cons, List.length_nil, Nat.reduceAdd, Nat.reduceSub, Array.replicate_succ, Array.replicate_zero, List.push_toArray, List.append_toArray, List.nil_append, List.cons_append]
  clear dC dB hW
  gi_wp2_with (gi_at_call 26; refine (told_in F (n - 1) (hF _) hro .nilFunc ⟨.func 0, #[], #[], .inr rfl⟩ _).mono ?_; rintro e w' ⟨rfl, rfl⟩)
  refine wpIn_range_silent hro h1 rfl (hF _) (enters_of Try.func39 (by kernel_rfl) rfl) (told_nil F (n - 1) (hF _) hro _ _ (by simp) (row_new (by simp))) ?_
  intro D W2 hD hb hK
  have cB2 : W2.cell? ⟨B, 0, none⟩ = some .nilFunc := (hb.cell (p := ⟨B, 0, none⟩) (by simp; omega)).trans ((((((Below.refl W.heap.size W).alloc (Nat.le_refl _) _).alloc (by simp) _)).cell (p := ⟨B, 0, none⟩) lB).trans cB)
  have hb0 : Below W.heap.size W W2 := (((Below.refl _ W).alloc (Nat.le_refl _) _).alloc (by simp) _).trans (hb.mono (by simp; try omega))
  have hDW : W.heap.size ≤ D := by simp at hD; omega
  have hDl := (Array.getElem?_eq_some_iff.1 hK).1
  have HK := Lib.hid hK
  have HB0 := Lib.hid hb0
  clear hb hK hb0
  gi_wp2_with (gi_at_call 26; refine (told_in F (n - 1) (hF _) hro .nilFunc ⟨.func 0, #[], #[], .inr rfl⟩ _).mono ?_; rintro e w' ⟨rfl, rfl⟩)
  refine wpIn_range_silent hro h1 rfl (hF _) (enters_of Try.func39 (by kernel_rfl) rfl) (told_nil F (n - 1) (hF _) hro _ _ (by simp) (row_new (by simp))) ?_
  intro D3 W3 hD3 hb3 hK3
  have hb4 : Below W2.heap.size W2 W3 := ((Below.refl _ W2).alloc (Nat.le_refl _) _).trans (hb3.mono (by simp))
  have hD4 : W2.heap.size ≤ D3 := by simp at hD3; omega
  have hne : D3 ≠ D := by omega
  have hK4 : (W3.putObj D3 (.deferred none)).heap[D]? = some (.deferred (some [])) := by
    have h5 : W3.heap[D]? = some (.deferred (some [])) := (hb4.block D hDl).trans HK.out
    have h6 := (grownBy_putObj' W3 D3 (.deferred none)).block D (Array.getElem?_eq_some_iff.1 h5).1 (by intro e; injection e with e; exact hne e.symm)
    exact h6.trans h5
  refine ⟨by simp, .inl ⟨_, _, rfl, run_takeDeferred hK3, ?_⟩⟩
  refine ⟨by simp, .inl ⟨_, _, rfl, run_takeDeferred hK4, ?_⟩⟩
  have h7 : Below W.heap.size W W3 := HB0.out.trans (hb4.mono HB0.out.size)
  have h8 := h7.trans (belowK_b (w := W) (Nat.le_refl _) W3 D3 _ (.deferred none) (by have := HB0.out.size; omega) hK3 rfl rfl)
  exact ⟨_, results_none rfl _ _ _, ⟨_, rfl⟩, h8.trans (belowK_b (w := W) (Nat.le_refl _) _ D _ _ hDW hK4 rfl rfl)⟩
theorem told_take (F : Fence) (n : Nat) (hF : ∀ k, F.fn k) (hro : F.round = none) (B : Nat) (p1 p2 : Value) (w : World) (hs : Silent F (n - 1) 25 #[p1, p2] w) (hB : B < w.heap.size) (hc : w.cell? ⟨B, 0, none⟩ = some (.func (.func 25) #[] #[p1, p2])) (hn : 1 ≤ n) : Silent F n 39 #[.pointer (some ⟨B, 0, none⟩)] w := fun fn b1 b2 W hW => by
  have c0 : W.cell? ⟨B, 0, none⟩ = some (.func (.func 25) #[] #[p1, p2]) := (hW.cell (p := ⟨B, 0, none⟩) hB).trans hc
  have hl : B < W.heap.size := Nat.lt_of_lt_of_le hB hW.size
  have HS := Lib.hid (fun (X : World) (a1 : Fn) (a2 a3 : Array Value) (hX : Below W.heap.size W X) => hs a1 a2 a3 X (hW.trans (hX.mono hW.size)))
  refine callsIn_of_wp Try.func39 rfl (hF _) ?_ hro
  simp only [Try.ntmps39, List.size_toArray, List.length_cons, List.length_nil, Nat.reduceAdd, Nat.reduceSub, Array.replicate_succ, Array.replicate_zero, List.push_toArray, List.append_toArray, List.nil_append, List.cons_append]
  have q : ∀ wx, (binOp .eql 26 (.func (.func 25) #[] #[p1, p2]) .nilFunc).run Try.prog wx = .ok (.bool false) wx := fun wx => rfl
  clear hs hc hW
  gi_wp2_with (gi_at_call 25; refine (HS.out _ _ _ _ (by go_grown)).mono ?_; rintro e w' ⟨⟨v, rfl⟩, hb⟩)
  go_end0
  exact ⟨⟨_, rfl⟩, (show Below W.heap.size W _ from by go_grown).trans (hb.mono (show Below W.heap.size W _ from by go_grown).size)⟩
theorem told_skip (F : Fence) (n : Nat) (hF : ∀ k, F.fn k) (hro : F.round = none) (B : Nat) (p1 p2 : Value) (w : World) (hs : Silent F (n - 1) 29 #[p1, p2] w) (hB : B < w.heap.size) (hc : w.cell? ⟨B, 0, none⟩ = some (.func (.func 29) #[] #[p1, p2])) (hn : 1 ≤ n) : Silent F n 39 #[.pointer (some ⟨B, 0, none⟩)] w := fun fn b1 b2 W hW => by
  have c0 : W.cell? ⟨B, 0, none⟩ = some (.func (.func 29) #[] #[p1, p2]) := (hW.cell (p := ⟨B, 0, none⟩) hB).trans hc
  have hl : B < W.heap.size := Nat.lt_of_lt_of_le hB hW.size
  have HS := Lib.hid (fun (X : World) (a1 : Fn) (a2 a3 : Array Value) (hX : Below W.heap.size W X) => hs a1 a2 a3 X (hW.trans (hX.mono hW.size)))
  refine callsIn_of_wp Try.func39 rfl (hF _) ?_ hro
  simp only [Try.ntmps39, List.size_toArray, List.length_cons, List.length_nil, Nat.reduceAdd, Nat.reduceSub, Array.replicate_succ, Array.replicate_zero, List.push_toArray, List.append_toArray, List.nil_append, List.cons_append]
  have q : ∀ wx, (binOp .eql 26 (.func (.func 29) #[] #[p1, p2]) .nilFunc).run Try.prog wx = .ok (.bool false) wx := fun wx => rfl
  clear hs hc hW
  gi_wp2_with (gi_at_call 29; refine (HS.out _ _ _ _ (by go_grown)).mono ?_; rintro e w' ⟨⟨v, rfl⟩, hb⟩)
  go_end0
  exact ⟨⟨_, rfl⟩, (show Below W.heap.size W _ from by go_grown).trans (hb.mono (show Below W.heap.size W _ from by go_grown).size)⟩
theorem told_both (F : Fence) (n : Nat) (hF : ∀ k, F.fn k) (hro : F.round = none) (B : Nat) (p1 p2 : Value) (w : World) (hs : Silent F (n - 1) 30 #[p1, p2] w) (hB : B < w.heap.size) (hc : w.cell? ⟨B, 0, none⟩ = some (.func (.func 30) #[] #[p1, p2])) (hn : 1 ≤ n) : Silent F n 39 #[.pointer (some ⟨B, 0, none⟩)] w := fun fn b1 b2 W hW => by
  have c0 : W.cell? ⟨B, 0, none⟩ = some (.func (.func 30) #[] #[p1, p2]) := (hW.cell (p := ⟨B, 0, none⟩) hB).trans hc
  have hl : B < W.heap.size := Nat.lt_of_lt_of_le hB hW.size
  have HS := Lib.hid (fun (X : World) (a1 : Fn) (a2 a3 : Array Value) (hX : Below W.heap.size W X) => hs a1 a2 a3 X (hW.trans (hX.mono hW.size)))
  refine callsIn_of_wp Try.func39 rfl (hF _) ?_ hro
  simp only [Try.ntmps39, List.size_toArray, List.length_cons, List.length_nil, Nat.reduceAdd, Nat.reduceSub, Array.replicate_succ, Array.replicate_zero, List.push_toArray, List.append_toArray, List.nil_append, List.cons_append]
  have q : ∀ wx, (binOp .eql 26 (.func (.func 30) #[] #[p1, p2]) .nilFunc).run Try.prog wx = .ok (.bool false) wx := fun wx => rfl
  clear hs hc hW
  gi_wp2_with (gi_at_call 30; refine (HS.out _ _ _ _ (by go_grown)).mono ?_; rintro e w' ⟨⟨v, rfl⟩, hb⟩)
  go_end0
  exact ⟨⟨_, rfl⟩, (show Below W.heap.size W _ from by go_grown).trans (hb.mono (show Below W.heap.size W _ from by go_grown).size)⟩
theorem told_once (F : Fence) (n : Nat) (hF : ∀ k, F.fn k) (hro : F.round = none) (B : Nat) (p1 : Value) (w : World) (hs : Silent F (n - 1) 34 #[p1] w) (hB : B < w.heap.size) (hc : w.cell? ⟨B, 0, none⟩ = some (.func (.func 34) #[] #[p1])) (hn : 1 ≤ n) : Silent F n 39 #[.pointer (some ⟨B, 0, none⟩)] w := fun fn b1 b2 W hW => by
  have c0 : W.cell? ⟨B, 0, none⟩ = some (.func (.func 34) #[] #[p1]) := (hW.cell (p := ⟨B, 0, none⟩) hB).trans hc
  have hl : B < W.heap.size := Nat.lt_of_lt_of_le hB hW.size
  have HS := Lib.hid (fun (X : World) (a1 : Fn) (a2 a3 : Array Value) (hX : Below W.heap.size W X) => hs a1 a2 a3 X (hW.trans (hX.mono hW.size)))
  refine callsIn_of_wp Try.func39 rfl (hF _) ?_ hro
  simp only [Try.ntmps39, List.size_toArray, List.length_cons, List.length_nil, Nat.reduceAdd, Nat.reduceSub, Array.replicate_succ, Array.replicate_zero, List.push_toArray, List.append_toArray, List.nil_append, List.cons_append]
  have q : ∀ wx, (binOp .eql 26 (.func (.func 34) #[] #[p1]) .nilFunc).run Try.prog wx = .ok (.bool false) wx := fun wx => rfl
  clear hs hc hW
  gi_wp2_with (gi_at_call 34; refine (HS.out _ _ _ _ (by go_grown)).mono ?_; rintro e w' ⟨⟨v, rfl⟩, hb⟩)
  go_end0
  exact ⟨⟨_, rfl⟩, (show Below W.heap.size W _ from by go_grown).trans (hb.mono (show Below W.heap.size W _ from by go_grown).size)⟩
theorem told_chun (F : Fence) (n : Nat) (hF : ∀ k, F.fn k) (hro : F.round = none) (B : Nat) (p1 p2 : Value) (w : World) (hs : Silent F (n - 1) 31 #[p1, p2] w) (hB : B < w.heap.size) (hc : w.cell? ⟨B, 0, none⟩ = some (.func (.func 31) #[] #[p1, p2])) (hn : 1 ≤ n) : Silent F n 42 #[.pointer (some ⟨B, 0, none⟩)] w := fun fn b1 b2 W hW => by
  have c0 : W.cell? ⟨B, 0, none⟩ = some (.func (.func 31) #[] #[p1, p2]) := (hW.cell (p := ⟨B, 0, none⟩) hB).trans hc
  have hl : B < W.heap.size := Nat.lt_of_lt_of_le hB hW.size
  have HS := Lib.hid (fun (X : World) (a1 : Fn) (a2 a3 : Array Value) (hX : Below W.heap.size W X) => hs a1 a2 a3 X (hW.trans (hX.mono hW.size)))
  refine callsIn_of_wp Try.func42 rfl (hF _) ?_ hro
  simp only [Try.ntmps42, List.size_toArray, List.length_cons, List.length_nil, Nat.reduceAdd, Nat.reduceSub, Array.replicate_succ, Array.replicate_zero, List.push_toArray, List.append_toArray, List.nil_append, List.cons_append]
  have q : ∀ wx, (binOp .eql 35 (.func (.func 31) #[] #[p1, p2]) .nilFunc).run Try.prog wx = .ok (.bool false) wx := fun wx => rfl
  clear hs hc hW
  gi_wp2_with (gi_at_call 31; refine (HS.out _ _ _ _ (by go_grown)).mono ?_; rintro e w' ⟨⟨v, rfl⟩, hb⟩)
  go_end0
  exact ⟨⟨_, rfl⟩, (show Below W.heap.size W _ from by go_grown).trans (hb.mono (show Below W.heap.size W _ from by go_grown).size)⟩
end Go.Proofs.Ytkklceblojcbkaa.Sq
