/- Some, all, Count of what tells nothing (written by gen_sqc). -/
import Derived.Test.YtkklceblojcbkaaSqD
namespace Go.Proofs.Ytkklceblojcbkaa.Sq
open Go.RowKit Go.Proofs.Ytkklceblojcbkaa
set_option linter.unusedVariables false
set_option maxRecDepth 100000
attribute [local go_sem] Oper.semAt_some
theorem some_nil0 (F : Fence) (n : Nat) (hF : ∀ k, F.fn k) (hro : F.round = none) (hn : 9 ≤ n) (k : Int) (w : World) :
    CallsIn F n Try.prog 16 #[.nilFunc, .int .i64 k] w fun e w' => e = .returned (.slice none 0 0) ∧ Below w.heap.size w w' := by
  have h1 : 1 ≤ n := by omega
  refine callsIn_of_wp_marks Try.func16 rfl (hF _) ?_ hro
  simp only [Try.ntmps16, List.size_toArray, List.length_cons, List.length_nil, Nat.reduceAdd, Nat.reduceSub, Array.replicate_succ, Array.replicate_zero, List.push_toArray, List.append_toArray, List.nil_append, List.cons_append]
  gi_wp2_with (gi_at_call 10; refine (take_mk F (n - 1) (hF _) hro k _).mono ?_; rintro e w' ⟨rfl, rfl⟩)
  refine wpIn_range_silent hro h1 rfl (hF _) (enters_of Try.func25 (by kernel_rfl) rfl) (take_nil F (n - 1) hF hro (by omega) _ _ k _ (by simp) (row_new (by simp)) (by simp; try omega) ((((Below.refl ((w.alloc (.cells #[.slice none 0 0] 22)).alloc (.cells #[.nilFunc] 26)).heap.size _).alloc (Nat.le_refl _) _).cell (p := ⟨w.heap.size + 1, 0, none⟩) (by simp)).trans (row_new (by simp)))) ?_
  intro D W2 hD hb hK
  have e0 : W2.cell? ⟨w.heap.size, 0, none⟩ = some (.slice none 0 0) := (hb.cell (p := ⟨w.heap.size, 0, none⟩) (by simp; try omega)).trans ((((((Below.refl (w.alloc (.cells #[.slice none 0 0] 22)).heap.size _).alloc (Nat.le_refl _) _).alloc (by simp) _)).cell (p := ⟨w.heap.size, 0, none⟩) (by simp)).trans (row_new rfl))
  have hb0 : Below w.heap.size w W2 := ((((Below.refl _ w).alloc (Nat.le_refl _) _).alloc (by simp) _).alloc (by simp; omega) _).trans (hb.mono (by simp; try omega))
  have hDW : w.heap.size ≤ D := by simp at hD; omega
  clear hb
  gi_wp2
  refine ⟨by simp, .inl ⟨_, _, rfl, run_takeDeferred hK, ?_⟩⟩
  exact ⟨_, results_tmp rfl _ _ _, rfl, hb0.trans (belowK_b (w := w) (Nat.le_refl _) W2 D _ _ hDW hK rfl rfl)⟩
theorem some_take0 (F : Fence) (n : Nat) (hF : ∀ k, F.fn k) (hro : F.round = none) (hn : 9 ≤ n) (k : Int) (w : World) (p1 p2 : Value) (hs : ∀ m, 5 ≤ m → Silent F m 25 #[p1, p2] w) :
    CallsIn F n Try.prog 16 #[(.func (.func 25) #[] #[p1, p2]), .int .i64 k] w fun e w' => e = .returned (.slice none 0 0) ∧ Below w.heap.size w w' := by
  have h1 : 1 ≤ n := by omega
  refine callsIn_of_wp_marks Try.func16 rfl (hF _) ?_ hro
  simp only [Try.ntmps16, List.size_toArray, List.length_cons, List.length_nil, Nat.reduceAdd, Nat.reduceSub, Array.replicate_succ, Array.replicate_zero, List.push_toArray, List.append_toArray, List.nil_append, List.cons_append]
  gi_wp2_with (gi_at_call 10; refine (takef_mk F (n - 1) (hF _) hro _ _ _ k _).mono ?_; rintro e w' ⟨rfl, rfl⟩)
  refine wpIn_range_silent hro h1 rfl (hF _) (enters_of Try.func25 (by kernel_rfl) rfl) (take_take F (n - 1) hF hro (by omega) _ _ k p1 p2 _ ((hs (n - 1 - 1 - 1) (by omega)).call (by go_grown)) (by simp) (row_new (by simp)) (by simp; try omega) ((((Below.refl ((w.alloc (.cells #[.slice none 0 0] 22)).alloc (.cells #[(.func (.func 25) #[] #[p1, p2])] 26)).heap.size _).alloc (Nat.le_refl _) _).cell (p := ⟨w.heap.size + 1, 0, none⟩) (by simp)).trans (row_new (by simp)))) ?_
  intro D W2 hD hb hK
  have e0 : W2.cell? ⟨w.heap.size, 0, none⟩ = some (.slice none 0 0) := (hb.cell (p := ⟨w.heap.size, 0, none⟩) (by simp; try omega)).trans ((((((Below.refl (w.alloc (.cells #[.slice none 0 0] 22)).heap.size _).alloc (Nat.le_refl _) _).alloc (by simp) _)).cell (p := ⟨w.heap.size, 0, none⟩) (by simp)).trans (row_new rfl))
  have hb0 : Below w.heap.size w W2 := ((((Below.refl _ w).alloc (Nat.le_refl _) _).alloc (by simp) _).alloc (by simp; omega) _).trans (hb.mono (by simp; try omega))
  have hDW : w.heap.size ≤ D := by simp at hD; omega
  clear hb
  gi_wp2
  refine ⟨by simp, .inl ⟨_, _, rfl, run_takeDeferred hK, ?_⟩⟩
  exact ⟨_, results_tmp rfl _ _ _, rfl, hb0.trans (belowK_b (w := w) (Nat.le_refl _) W2 D _ _ hDW hK rfl rfl)⟩
theorem some_skip0 (F : Fence) (n : Nat) (hF : ∀ k, F.fn k) (hro : F.round = none) (hn : 9 ≤ n) (k : Int) (w : World) (p1 p2 : Value) (hs : ∀ m, 5 ≤ m → Silent F m 29 #[p1, p2] w) :
    CallsIn F n Try.prog 16 #[(.func (.func 29) #[] #[p1, p2]), .int .i64 k] w fun e w' => e = .returned (.slice none 0 0) ∧ Below w.heap.size w w' := by
  have h1 : 1 ≤ n := by omega
  refine callsIn_of_wp_marks Try.func16 rfl (hF _) ?_ hro
  simp only [Try.ntmps16, List.size_toArray, List.length_cons, List.length_nil, Nat.reduceAdd, Nat.reduceSub, Array.replicate_succ, Array.replicate_zero, List.push_toArray, List.append_toArray, List.nil_append, List.cons_append]
  gi_wp2_with (gi_at_call 10; refine (takef_mk F (n - 1) (hF _) hro _ _ _ k _).mono ?_; rintro e w' ⟨rfl, rfl⟩)
  refine wpIn_range_silent hro h1 rfl (hF _) (enters_of Try.func25 (by kernel_rfl) rfl) (take_skip F (n - 1) hF hro (by omega) _ _ k p1 p2 _ ((hs (n - 1 - 1 - 1) (by omega)).call (by go_grown)) (by simp) (row_new (by simp)) (by simp; try omega) ((((Below.refl ((w.alloc (.cells #[.slice none 0 0] 22)).alloc (.cells #[(.func (.func 29) #[] #[p1, p2])] 26)).heap.size _).alloc (Nat.le_refl _) _).cell (p := ⟨w.heap.size + 1, 0, none⟩) (by simp)).trans (row_new (by simp)))) ?_
  intro D W2 hD hb hK
  have e0 : W2.cell? ⟨w.heap.size, 0, none⟩ = some (.slice none 0 0) := (hb.cell (p := ⟨w.heap.size, 0, none⟩) (by simp; try omega)).trans ((((((Below.refl (w.alloc (.cells #[.slice none 0 0] 22)).heap.size _).alloc (Nat.le_refl _) _).alloc (by simp) _)).cell (p := ⟨w.heap.size, 0, none⟩) (by simp)).trans (row_new rfl))
  have hb0 : Below w.heap.size w W2 := ((((Below.refl _ w).alloc (Nat.le_refl _) _).alloc (by simp) _).alloc (by simp; omega) _).trans (hb.mono (by simp; try omega))
  have hDW : w.heap.size ≤ D := by simp at hD; omega
  clear hb
  gi_wp2
  refine ⟨by simp, .inl ⟨_, _, rfl, run_takeDeferred hK, ?_⟩⟩
  exact ⟨_, results_tmp rfl _ _ _, rfl, hb0.trans (belowK_b (w := w) (Nat.le_refl _) W2 D _ _ hDW hK rfl rfl)⟩
theorem some_both0 (F : Fence) (n : Nat) (hF : ∀ k, F.fn k) (hro : F.round = none) (hn : 9 ≤ n) (k : Int) (w : World) (p1 p2 : Value) (hs : ∀ m, 5 ≤ m → Silent F m 30 #[p1, p2] w) :
    CallsIn F n Try.prog 16 #[(.func (.func 30) #[] #[p1, p2]), .int .i64 k] w fun e w' => e = .returned (.slice none 0 0) ∧ Below w.heap.size w w' := by
  have h1 : 1 ≤ n := by omega
  refine callsIn_of_wp_marks Try.func16 rfl (hF _) ?_ hro
  simp only [Try.ntmps16, List.size_toArray, List.length_cons, List.length_nil, Nat.reduceAdd, Nat.reduceSub, Array.replicate_succ, Array.replicate_zero, List.push_toArray, List.append_toArray, List.nil_append, List.cons_append]
  gi_wp2_with (gi_at_call 10; refine (takef_mk F (n - 1) (hF _) hro _ _ _ k _).mono ?_; rintro e w' ⟨rfl, rfl⟩)
  refine wpIn_range_silent hro h1 rfl (hF _) (enters_of Try.func25 (by kernel_rfl) rfl) (take_both F (n - 1) hF hro (by omega) _ _ k p1 p2 _ ((hs (n - 1 - 1 - 1) (by omega)).call (by go_grown)) (by simp) (row_new (by simp)) (by simp; try omega) ((((Below.refl ((w.alloc (.cells #[.slice none 0 0] 22)).alloc (.cells #[(.func (.func 30) #[] #[p1, p2])] 26)).heap.size _).alloc (Nat.le_refl _) _).cell (p := ⟨w.heap.size + 1, 0, none⟩) (by simp)).trans (row_new (by simp)))) ?_
  intro D W2 hD hb hK
  have e0 : W2.cell? ⟨w.heap.size, 0, none⟩ = some (.slice none 0 0) := (hb.cell (p := ⟨w.heap.size, 0, none⟩) (by simp; try omega)).trans ((((((Below.refl (w.alloc (.cells #[.slice none 0 0] 22)).heap.size _).alloc (Nat.le_refl _) _).alloc (by simp) _)).cell (p := ⟨w.heap.size, 0, none⟩) (by simp)).trans (row_new rfl))
  have hb0 : Below w.heap.size w W2 := ((((Below.refl _ w).alloc (Nat.le_refl _) _).alloc (by simp) _).alloc (by simp; omega) _).trans (hb.mono (by simp; try omega))
  have hDW : w.heap.size ≤ D := by simp at hD; omega
  clear hb
  gi_wp2
  refine ⟨by simp, .inl ⟨_, _, rfl, run_takeDeferred hK, ?_⟩⟩
  exact ⟨_, results_tmp rfl _ _ _, rfl, hb0.trans (belowK_b (w := w) (Nat.le_refl _) W2 D _ _ hDW hK rfl rfl)⟩
theorem some_once0 (F : Fence) (n : Nat) (hF : ∀ k, F.fn k) (hro : F.round = none) (hn : 9 ≤ n) (k : Int) (w : World) (p1 : Value) (hs : ∀ m, 5 ≤ m → Silent F m 34 #[p1] w) :
    CallsIn F n Try.prog 16 #[(.func (.func 34) #[] #[p1]), .int .i64 k] w fun e w' => e = .returned (.slice none 0 0) ∧ Below w.heap.size w w' := by
  have h1 : 1 ≤ n := by omega
  refine callsIn_of_wp_marks Try.func16 rfl (hF _) ?_ hro
  simp only [Try.ntmps16, List.size_toArray, List.length_cons, List.length_nil, Nat.reduceAdd, Nat.reduceSub, Array.replicate_succ, Array.replicate_zero, List.push_toArray, List.append_toArray, List.nil_append, List.cons_append]
  gi_wp2_with (gi_at_call 10; refine (takef_mk F (n - 1) (hF _) hro _ _ _ k _).mono ?_; rintro e w' ⟨rfl, rfl⟩)
  refine wpIn_range_silent hro h1 rfl (hF _) (enters_of Try.func25 (by kernel_rfl) rfl) (take_once F (n - 1) hF hro (by omega) _ _ k p1 _ ((hs (n - 1 - 1 - 1) (by omega)).call (by go_grown)) (by simp) (row_new (by simp)) (by simp; try omega) ((((Below.refl ((w.alloc (.cells #[.slice none 0 0] 22)).alloc (.cells #[(.func (.func 34) #[] #[p1])] 26)).heap.size _).alloc (Nat.le_refl _) _).cell (p := ⟨w.heap.size + 1, 0, none⟩) (by simp)).trans (row_new (by simp)))) ?_
  intro D W2 hD hb hK
  have e0 : W2.cell? ⟨w.heap.size, 0, none⟩ = some (.slice none 0 0) := (hb.cell (p := ⟨w.heap.size, 0, none⟩) (by simp; try omega)).trans ((((((Below.refl (w.alloc (.cells #[.slice none 0 0] 22)).heap.size _).alloc (Nat.le_refl _) _).alloc (by simp) _)).cell (p := ⟨w.heap.size, 0, none⟩) (by simp)).trans (row_new rfl))
  have hb0 : Below w.heap.size w W2 := ((((Below.refl _ w).alloc (Nat.le_refl _) _).alloc (by simp) _).alloc (by simp; omega) _).trans (hb.mono (by simp; try omega))
  have hDW : w.heap.size ≤ D := by simp at hD; omega
  clear hb
  gi_wp2
  refine ⟨by simp, .inl ⟨_, _, rfl, run_takeDeferred hK, ?_⟩⟩
  exact ⟨_, results_tmp rfl _ _ _, rfl, hb0.trans (belowK_b (w := w) (Nat.le_refl _) W2 D _ _ hDW hK rfl rfl)⟩
end Go.Proofs.Ytkklceblojcbkaa.Sq
