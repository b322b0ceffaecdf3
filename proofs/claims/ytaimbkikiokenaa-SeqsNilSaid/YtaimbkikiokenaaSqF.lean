/- all, Count of what tells nothing, as plain calls (written by gen_sqc). -/
import Derived.Test.YtaimbkikiokenaaSqE
namespace Go.Proofs.Ytaimbkikiokenaa.Sq
open Go.RowKit Go.Proofs.Ytaimbkikiokenaa
set_option linter.unusedVariables false
set_option maxRecDepth 100000
attribute [local go_sem] Oper.semAt_some
theorem all_take (p1 p2 : Value) (w : World) (hs : ∀ m, 5 ≤ m → Silent Fence.wide m 57 #[p1, p2] w) :
    Calls Try.prog 12 #[(.func (.func 57) #[] #[p1, p2])] w fun e w' => e = .returned (.slice none 0 0) ∧ Below w.heap.size w w' := by
  go_enter Try.func12, Try.ntmps12
  go_wp2_with (go_at_call 20; refine (callsIn_wide.1 (some_take0 Fence.wide 9 (fun _ => trivial) rfl (by omega) 1000 _ p1 p2 hs)).mono ?_; rintro e w' ⟨rfl, hb⟩)
  go_ret
  exact ⟨rfl, hb⟩
theorem all_skip (p1 p2 : Value) (w : World) (hs : ∀ m, 5 ≤ m → Silent Fence.wide m 58 #[p1, p2] w) :
    Calls Try.prog 12 #[(.func (.func 58) #[] #[p1, p2])] w fun e w' => e = .returned (.slice none 0 0) ∧ Below w.heap.size w w' := by
  go_enter Try.func12, Try.ntmps12
  go_wp2_with (go_at_call 20; refine (callsIn_wide.1 (some_skip0 Fence.wide 9 (fun _ => trivial) rfl (by omega) 1000 _ p1 p2 hs)).mono ?_; rintro e w' ⟨rfl, hb⟩)
  go_ret
  exact ⟨rfl, hb⟩
theorem all_both (p1 p2 : Value) (w : World) (hs : ∀ m, 5 ≤ m → Silent Fence.wide m 59 #[p1, p2] w) :
    Calls Try.prog 12 #[(.func (.func 59) #[] #[p1, p2])] w fun e w' => e = .returned (.slice none 0 0) ∧ Below w.heap.size w w' := by
  go_enter Try.func12, Try.ntmps12
  go_wp2_with (go_at_call 20; refine (callsIn_wide.1 (some_both0 Fence.wide 9 (fun _ => trivial) rfl (by omega) 1000 _ p1 p2 hs)).mono ?_; rintro e w' ⟨rfl, hb⟩)
  go_ret
  exact ⟨rfl, hb⟩
theorem all_once (p1 : Value) (w : World) (hs : ∀ m, 5 ≤ m → Silent Fence.wide m 60 #[p1] w) :
    Calls Try.prog 12 #[(.func (.func 60) #[] #[p1])] w fun e w' => e = .returned (.slice none 0 0) ∧ Below w.heap.size w w' := by
  go_enter Try.func12, Try.ntmps12
  go_wp2_with (go_at_call 20; refine (callsIn_wide.1 (some_once0 Fence.wide 9 (fun _ => trivial) rfl (by omega) 1000 _ p1 hs)).mono ?_; rintro e w' ⟨rfl, hb⟩)
  go_ret
  exact ⟨rfl, hb⟩
theorem count_nil (F : Fence) (n : Nat) (hF : ∀ k, F.fn k) (hro : F.round = none) (hn : 9 ≤ n)  (w : World)  :
    CallsIn F n Try.prog 17 #[.nilFunc] w fun e w' => e = .returned (.int .i64 0) ∧ Below w.heap.size w w' := by
  have h1 : 1 ≤ n := by omega
  refine callsIn_of_wp_marks Try.func17 rfl (hF _) ?_ hro
  simp only [Try.ntmps17, List.size_toArray, List.length_cons, List.length_nil, Nat.reduceAdd, Nat.reduceSub, Array.replicate_succ, Array.replicate_zero, List.push_toArray, List.append_toArray, List.nil_append, List.cons_append]
  gi_wp2_with (gi_at_call 55; refine (told_in F (n - 1) (hF _) hro .nilFunc ⟨.func 0, #[], #[], .inr rfl⟩ _).mono ?_; rintro e w' ⟨rfl, rfl⟩)
  refine wpIn_range_silent hro h1 rfl (hF _) (enters_of Try.func93 (by kernel_rfl) rfl) (told_nil F (n - 1) (hF _) hro _ _ (by simp) (row_new (by simp))) ?_
  intro D W2 hD hb hK
  have e0 : W2.cell? ⟨w.heap.size, 0, none⟩ = some (.int .i64 0) := (hb.cell (p := ⟨w.heap.size, 0, none⟩) (by simp; try omega)).trans ((((Below.refl (w.alloc (.cells #[.int .i64 0] 3)).heap.size _).alloc (Nat.le_refl _) _).cell (p := ⟨w.heap.size, 0, none⟩) (by simp)).trans (row_new rfl))
  have hb0 : Below w.heap.size w W2 := (((Below.refl _ w).alloc (Nat.le_refl _) _).alloc (by simp) _).trans (hb.mono (by simp; try omega))
  have hDW : w.heap.size ≤ D := by simp at hD; omega
  clear hb
  gi_wp2
  refine ⟨by simp, .inl ⟨_, _, rfl, run_takeDeferred hK, ?_⟩⟩
  exact ⟨_, results_tmp rfl _ _ _, rfl, hb0.trans (belowK_b (w := w) (Nat.le_refl _) W2 D _ _ hDW hK rfl rfl)⟩
theorem toldc_in (F : Fence) (n : Nat) (hF : F.fn 62) (hro : F.round = none) (f : Fn) (a b : Array Value) (w : World) :
    CallsIn F n Try.prog 62 #[.func f a b] w fun e w' => e = .returned (.func (.func 96) #[] #[.pointer (some ⟨w.heap.size, 0, none⟩)]) ∧ w' = w.alloc (.cells #[.func f a b] 36) := by
  refine callsIn_of_wp Try.func62 rfl hF ?_ hro
  simp only [Try.ntmps62, List.size_toArray, List.length_cons, List.length_nil, Nat.reduceAdd, Nat.reduceSub, Array.replicate_succ, Array.replicate_zero, List.push_toArray, List.append_toArray, List.nil_append, List.cons_append]
  gi_wp2
  go_ret
  exact ⟨rfl, rfl⟩
theorem count_chun (F : Fence) (n : Nat) (hF : ∀ k, F.fn k) (hro : F.round = none) (hn : 9 ≤ n) (p1 p2 : Value) (w : World) (hs : ∀ m, 5 ≤ m → Silent F m 63 #[p1, p2] w) :
    CallsIn F n Try.prog 18 #[(.func (.func 63) #[] #[p1, p2])] w fun e w' => e = .returned (.int .i64 0) ∧ Below w.heap.size w w' := by
  have h1 : 1 ≤ n := by omega
  refine callsIn_of_wp_marks Try.func18 rfl (hF _) ?_ hro
  simp only [Try.ntmps18, List.size_toArray, List.length_cons, List.length_nil, Nat.reduceAdd, Nat.reduceSub, Array.replicate_succ, Array.replicate_zero, List.push_toArray, List.append_toArray, List.nil_append, List.cons_append]
  gi_wp2_with (gi_at_call 62; refine (toldc_in F (n - 1) (hF _) hro _ _ _ _).mono ?_; rintro e w' ⟨rfl, rfl⟩)
  refine wpIn_range_silent hro h1 rfl (hF _) (enters_of Try.func96 (by kernel_rfl) rfl) (told_chun F (n - 1) hF hro _ p1 p2 _ ((hs (n - 1 - 1) (by omega)).call (by go_grown)) (by simp) (row_new (by simp)) (by omega)) ?_
  intro D W2 hD hb hK
  have e0 : W2.cell? ⟨w.heap.size, 0, none⟩ = some (.int .i64 0) := (hb.cell (p := ⟨w.heap.size, 0, none⟩) (by simp; try omega)).trans ((((Below.refl (w.alloc (.cells #[.int .i64 0] 3)).heap.size _).alloc (Nat.le_refl _) _).cell (p := ⟨w.heap.size, 0, none⟩) (by simp)).trans (row_new rfl))
  have hb0 : Below w.heap.size w W2 := (((Below.refl _ w).alloc (Nat.le_refl _) _).alloc (by simp) _).trans (hb.mono (by simp; try omega))
  have hDW : w.heap.size ≤ D := by simp at hD; omega
  clear hb
  gi_wp2
  refine ⟨by simp, .inl ⟨_, _, rfl, run_takeDeferred hK, ?_⟩⟩
  exact ⟨_, results_tmp rfl _ _ _, rfl, hb0.trans (belowK_b (w := w) (Nat.le_refl _) W2 D _ _ hDW hK rfl rfl)⟩
end Go.Proofs.Ytaimbkikiokenaa.Sq
