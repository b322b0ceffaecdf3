/- Take, Some, Count of what tells nothing (written by gen_sqc). -/
import Derived.Test.YtkklceblojcbkaaSqC
namespace Go.Proofs.Ytkklceblojcbkaa.Sq
open Go.RowKit Go.Proofs.Ytkklceblojcbkaa
set_option linter.unusedVariables false
set_option maxRecDepth 100000
attribute [local go_sem] Oper.semAt_some
theorem take_take (F : Fence) (n : Nat) (hF : ∀ k, F.fn k) (hro : F.round = none) (hn : 4 ≤ n) (B C : Nat) (k : Int) (p1 p2 : Value) (w : World) (hs : Silent F (n - 1 - 1) 25 #[p1, p2] w) (hB : B < w.heap.size) (hc : w.cell? ⟨B, 0, none⟩ = some (.int .i64 k)) (hC : C < w.heap.size) (hd : w.cell? ⟨C, 0, none⟩ = some (.func (.func 25) #[] #[p1, p2])) : Silent F n 25 #[.pointer (some ⟨B, 0, none⟩), .pointer (some ⟨C, 0, none⟩)] w := fun fn b1 b2 W hW => by
  have h1 : 1 ≤ n := by omega
  have c0 : W.cell? ⟨B, 0, none⟩ = some (.int .i64 k) := (hW.cell (p := ⟨B, 0, none⟩) hB).trans hc
  have d0 : W.cell? ⟨C, 0, none⟩ = some (.func (.func 25) #[] #[p1, p2]) := (hW.cell (p := ⟨C, 0, none⟩) hC).trans hd
  have hB' : B < W.heap.size := Nat.lt_of_lt_of_le hB hW.size
  have hC' : C < W.heap.size := Nat.lt_of_lt_of_le hC hW.size
  have HS := Lib.hid (hs.call hW)
  refine callsIn_of_wp_marks Try.func25 rfl (hF _) ?_ hro
  simp only [Try.ntmps25, List.size_toArray, List.length_cons, List.length_nil, Nat.reduceAdd, Nat.reduceSub, Array.replicate_succ, Array.replicate_zero, List.push_toArray, List.append_toArray, List.nil_append, List.cons_append]
  clear hc hd hW hs
  by_cases hk : k ≤ 0
  · gi_wp2
    exact ⟨_, results_none rfl _ _ _, ⟨_, rfl⟩, (Below.refl _ W).alloc (Nat.le_refl _) _⟩
  · gi_wp2_with (gi_at_call 26; refine (told_in F (n - 1) (hF _) hro (.func (.func 25) #[] #[p1, p2]) ⟨_, _, _, .inl rfl⟩ _).mono ?_; rintro e w' ⟨rfl, rfl⟩)
    refine wpIn_range_silent hro h1 rfl (hF _) (enters_of Try.func39 (by kernel_rfl) rfl) (told_take F (n - 1) hF hro _ p1 p2 _ (HS.out.call (by go_grown)) (by simp) (row_new (by simp)) (by omega)) ?_
    intro D W2 hD hb hK
    have hb0 : Below W.heap.size W W2 := ((((Below.refl _ W).alloc (by first | exact Nat.le_refl _ | (simp; done) | (simp; omega)) _).alloc (by first | exact Nat.le_refl _ | (simp; done) | (simp; omega)) _).alloc (by first | exact Nat.le_refl _ | (simp; done) | (simp; omega)) _).trans (hb.mono (by simp; try omega))
    have hDW : W.heap.size ≤ D := by simp at hD; omega
    refine ⟨by simp, .inl ⟨_, _, rfl, run_takeDeferred hK, ?_⟩⟩
    exact ⟨_, results_none rfl _ _ _, ⟨_, rfl⟩, hb0.trans (belowK_b (w := W) (Nat.le_refl _) W2 D _ _ hDW hK rfl rfl)⟩
theorem take_skip (F : Fence) (n : Nat) (hF : ∀ k, F.fn k) (hro : F.round = none) (hn : 4 ≤ n) (B C : Nat) (k : Int) (p1 p2 : Value) (w : World) (hs : Silent F (n - 1 - 1) 29 #[p1, p2] w) (hB : B < w.heap.size) (hc : w.cell? ⟨B, 0, none⟩ = some (.int .i64 k)) (hC : C < w.heap.size) (hd : w.cell? ⟨C, 0, none⟩ = some (.func (.func 29) #[] #[p1, p2])) : Silent F n 25 #[.pointer (some ⟨B, 0, none⟩), .pointer (some ⟨C, 0, none⟩)] w := fun fn b1 b2 W hW => by
  have h1 : 1 ≤ n := by omega
  have c0 : W.cell? ⟨B, 0, none⟩ = some (.int .i64 k) := (hW.cell (p := ⟨B, 0, none⟩) hB).trans hc
  have d0 : W.cell? ⟨C, 0, none⟩ = some (.func (.func 29) #[] #[p1, p2]) := (hW.cell (p := ⟨C, 0, none⟩) hC).trans hd
  have hB' : B < W.heap.size := Nat.lt_of_lt_of_le hB hW.size
  have hC' : C < W.heap.size := Nat.lt_of_lt_of_le hC hW.size
  have HS := Lib.hid (hs.call hW)
  refine callsIn_of_wp_marks Try.func25 rfl (hF _) ?_ hro
  simp only [Try.ntmps25, List.size_toArray, List.length_cons, List.length_nil, Nat.reduceAdd, Nat.reduceSub, Array.replicate_succ, Array.replicate_zero, List.push_toArray, List.append_toArray, List.nil_append, List.cons_append]
  clear hc hd hW hs
  by_cases hk : k ≤ 0
  · gi_wp2
    exact ⟨_, results_none rfl _ _ _, ⟨_, rfl⟩, (Below.refl _ W).alloc (Nat.le_refl _) _⟩
  · gi_wp2_with (gi_at_call 26; refine (told_in F (n - 1) (hF _) hro (.func (.func 29) #[] #[p1, p2]) ⟨_, _, _, .inl rfl⟩ _).mono ?_; rintro e w' ⟨rfl, rfl⟩)
    refine wpIn_range_silent hro h1 rfl (hF _) (enters_of Try.func39 (by kernel_rfl) rfl) (told_skip F (n - 1) hF hro _ p1 p2 _ (HS.out.call (by go_grown)) (by simp) (row_new (by simp)) (by omega)) ?_
    intro D W2 hD hb hK
    have hb0 : Below W.heap.size W W2 := ((((Below.refl _ W).alloc (by first | exact Nat.le_refl _ | (simp; done) | (simp; omega)) _).alloc (by first | exact Nat.le_refl _ | (simp; done) | (simp; omega)) _).alloc (by first | exact Nat.le_refl _ | (simp; done) | (simp; omega)) _).trans (hb.mono (by simp; try omega))
    have hDW : W.heap.size ≤ D := by simp at hD; omega
    refine ⟨by simp, .inl ⟨_, _, rfl, run_takeDeferred hK, ?_⟩⟩
    exact ⟨_, results_none rfl _ _ _, ⟨_, rfl⟩, hb0.trans (belowK_b (w := W) (Nat.le_refl _) W2 D _ _ hDW hK rfl rfl)⟩
theorem take_both (F : Fence) (n : Nat) (hF : ∀ k, F.fn k) (hro : F.round = none) (hn : 4 ≤ n) (B C : Nat) (k : Int) (p1 p2 : Value) (w : World) (hs : Silent F (n - 1 - 1) 30 #[p1, p2] w) (hB : B < w.heap.size) (hc : w.cell? ⟨B, 0, none⟩ = some (.int .i64 k)) (hC : C < w.heap.size) (hd : w.cell? ⟨C, 0, none⟩ = some (.func (.func 30) #[] #[p1, p2])) : Silent F n 25 #[.pointer (some ⟨B, 0, none⟩), .pointer (some ⟨C, 0, none⟩)] w := fun fn b1 b2 W hW => by
  have h1 : 1 ≤ n := by omega
  have c0 : W.cell? ⟨B, 0, none⟩ = some (.int .i64 k) := (hW.cell (p := ⟨B, 0, none⟩) hB).trans hc
  have d0 : W.cell? ⟨C, 0, none⟩ = some (.func (.func 30) #[] #[p1, p2]) := (hW.cell (p := ⟨C, 0, none⟩) hC).trans hd
  have hB' : B < W.heap.size := Nat.lt_of_lt_of_le hB hW.size
  have hC' : C < W.heap.size := Nat.lt_of_lt_of_le hC hW.size
  have HS := Lib.hid (hs.call hW)
  refine callsIn_of_wp_marks Try.func25 rfl (hF _) ?_ hro
  simp only [Try.ntmps25, List.size_toArray, List.length_cons, List.length_nil, Nat.reduceAdd, Nat.reduceSub, Array.replicate_succ, Array.replicate_zero, List.push_toArray, List.append_toArray, List.nil_append, List.cons_append]
  clear hc hd hW hs
  by_cases hk : k ≤ 0
  · gi_wp2
    exact ⟨_, results_none rfl _ _ _, ⟨_, rfl⟩, (Below.refl _ W).alloc (Nat.le_refl _) _⟩
  · gi_wp2_with (gi_at_call 26; refine (told_in F (n - 1) (hF _) hro (.func (.func 30) #[] #[p1, p2]) ⟨_, _, _, .inl rfl⟩ _).mono ?_; rintro e w' ⟨rfl, rfl⟩)
    refine wpIn_range_silent hro h1 rfl (hF _) (enters_of Try.func39 (by kernel_rfl) rfl) (told_both F (n - 1) hF hro _ p1 p2 _ (HS.out.call (by go_grown)) (by simp) (row_new (by simp)) (by omega)) ?_
    intro D W2 hD hb hK
    have hb0 : Below W.heap.size W W2 := ((((Below.refl _ W).alloc (by first | exact Nat.le_refl _ | (simp; done) | (simp; omega)) _).alloc (by first | exact Nat.le_refl _ | (simp; done) | (simp; omega)) _).alloc (by first | exact Nat.le_refl _ | (simp; done) | (simp; omega)) _).trans (hb.mono (by simp; try omega))
    have hDW : W.heap.size ≤ D := by simp at hD; omega
    refine ⟨by simp, .inl ⟨_, _, rfl, run_takeDeferred hK, ?_⟩⟩
    exact ⟨_, results_none rfl _ _ _, ⟨_, rfl⟩, hb0.trans (belowK_b (w := W) (Nat.le_refl _) W2 D _ _ hDW hK rfl rfl)⟩
theorem take_once (F : Fence) (n : Nat) (hF : ∀ k, F.fn k) (hro : F.round = none) (hn : 4 ≤ n) (B C : Nat) (k : Int) (p1 : Value) (w : World) (hs : Silent F (n - 1 - 1) 34 #[p1] w) (hB : B < w.heap.size) (hc : w.cell? ⟨B, 0, none⟩ = some (.int .i64 k)) (hC : C < w.heap.size) (hd : w.cell? ⟨C, 0, none⟩ = some (.func (.func 34) #[] #[p1])) : Silent F n 25 #[.pointer (some ⟨B, 0, none⟩), .pointer (some ⟨C, 0, none⟩)] w := fun fn b1 b2 W hW => by
  have h1 : 1 ≤ n := by omega
  have c0 : W.cell? ⟨B, 0, none⟩ = some (.int .i64 k) := (hW.cell (p := ⟨B, 0, none⟩) hB).trans hc
  have d0 : W.cell? ⟨C, 0, none⟩ = some (.func (.func 34) #[] #[p1]) := (hW.cell (p := ⟨C, 0, none⟩) hC).trans hd
  have hB' : B < W.heap.size := Nat.lt_of_lt_of_le hB hW.size
  have hC' : C < W.heap.size := Nat.lt_of_lt_of_le hC hW.size
  have HS := Lib.hid (hs.call hW)
  refine callsIn_of_wp_marks Try.func25 rfl (hF _) ?_ hro
  simp only [Try.ntmps25, List.size_toArray, List.length_cons, List.length_nil, Nat.reduceAdd, Nat.reduceSub, Array.replicate_succ, Array.replicate_zero, List.push_toArray, List.append_toArray, List.nil_append, List.cons_append]
  clear hc hd hW hs
  by_cases hk : k ≤ 0
  · gi_wp2
    exact ⟨_, results_none rfl _ _ _, ⟨_, rfl⟩, (Below.refl _ W).alloc (Nat.le_refl _) _⟩
  · gi_wp2_with (gi_at_call 26; refine (told_in F (n - 1) (hF _) hro (.func (.func 34) #[] #[p1]) ⟨_, _, _, .inl rfl⟩ _).mono ?_; rintro e w' ⟨rfl, rfl⟩)
    refine wpIn_range_silent hro h1 rfl (hF _) (enters_of Try.func39 (by kernel_rfl) rfl) (told_once F (n - 1) hF hro _ p1 _ (HS.out.call (by go_grown)) (by simp) (row_new (by simp)) (by omega)) ?_
    intro D W2 hD hb hK
    have hb0 : Below W.heap.size W W2 := ((((Below.refl _ W).alloc (by first | exact Nat.le_refl _ | (simp; done) | (simp; omega)) _).alloc (by first | exact Nat.le_refl _ | (simp; done) | (simp; omega)) _).alloc (by first | exact Nat.le_refl _ | (simp; done) | (simp; omega)) _).trans (hb.mono (by simp; try omega))
    have hDW : W.heap.size ≤ D := by simp at hD; omega
    refine ⟨by simp, .inl ⟨_, _, rfl, run_takeDeferred hK, ?_⟩⟩
    exact ⟨_, results_none rfl _ _ _, ⟨_, rfl⟩, hb0.trans (belowK_b (w := W) (Nat.le_refl _) W2 D _ _ hDW hK rfl rfl)⟩
theorem skip_mk (F : Fence) (n : Nat) (hF : F.fn 12) (hro : F.round = none) (k : Int) (w : World) :
    CallsIn F n Try.prog 12 #[.nilFunc, .int .i64 k] w fun e w' => e = .returned (.func (.func 29) #[] #[.pointer (some ⟨w.heap.size, 0, none⟩), .pointer (some ⟨w.heap.size + 1, 0, none⟩)]) ∧ w' = ((w.alloc (.cells #[.nilFunc] 26)).alloc (.cells #[.int .i64 k] 3)) := by
  refine callsIn_of_wp Try.func12 rfl hF ?_ hro
  simp only [Try.ntmps12, List.size_toArray, List.length_cons, List.length_nil, Nat.reduceAdd, Nat.reduceSub, Array.replicate_succ, Array.replicate_zero, List.push_toArray, List.append_toArray, List.nil_append, List.cons_append]
  gi_wp2
  go_ret
  exact ⟨rfl, rfl⟩
theorem take_mk (F : Fence) (n : Nat) (hF : F.fn 10) (hro : F.round = none) (k : Int) (w : World) :
    CallsIn F n Try.prog 10 #[.nilFunc, .int .i64 k] w fun e w' => e = .returned (.func (.func 25) #[] #[.pointer (some ⟨w.heap.size + 1, 0, none⟩), .pointer (some ⟨w.heap.size, 0, none⟩)]) ∧ w' = ((w.alloc (.cells #[.nilFunc] 26)).alloc (.cells #[.int .i64 k] 3)) := by
  refine callsIn_of_wp Try.func10 rfl hF ?_ hro
  simp only [Try.ntmps10, List.size_toArray, List.length_cons, List.length_nil, Nat.reduceAdd, Nat.reduceSub, Array.replicate_succ, Array.replicate_zero, List.push_toArray, List.append_toArray, List.nil_append, List.cons_append]
  gi_wp2
  go_ret
  exact ⟨rfl, rfl⟩
theorem both_mk (F : Fence) (n : Nat) (hF : F.fn 13) (hro : F.round = none)  (w : World) :
    CallsIn F n Try.prog 13 #[.nilFunc, .nilFunc] w fun e w' => e = .returned (.func (.func 30) #[] #[.pointer (some ⟨w.heap.size, 0, none⟩), .pointer (some ⟨w.heap.size + 1, 0, none⟩)]) ∧ w' = ((w.alloc (.cells #[.nilFunc] 26)).alloc (.cells #[.nilFunc] 26)) := by
  refine callsIn_of_wp Try.func13 rfl hF ?_ hro
  simp only [Try.ntmps13, List.size_toArray, List.length_cons, List.length_nil, Nat.reduceAdd, Nat.reduceSub, Array.replicate_succ, Array.replicate_zero, List.push_toArray, List.append_toArray, List.nil_append, List.cons_append]
  gi_wp2
  go_ret
  exact ⟨rfl, rfl⟩
theorem once_mk (F : Fence) (n : Nat) (hF : F.fn 20) (hro : F.round = none)  (w : World) :
    CallsIn F n Try.prog 20 #[.nilFunc] w fun e w' => e = .returned (.func (.func 34) #[] #[.pointer (some ⟨w.heap.size, 0, none⟩)]) ∧ w' = (w.alloc (.cells #[.nilFunc] 26)) := by
  refine callsIn_of_wp Try.func20 rfl hF ?_ hro
  simp only [Try.ntmps20, List.size_toArray, List.length_cons, List.length_nil, Nat.reduceAdd, Nat.reduceSub, Array.replicate_succ, Array.replicate_zero, List.push_toArray, List.append_toArray, List.nil_append, List.cons_append]
  gi_wp2
  go_ret
  exact ⟨rfl, rfl⟩
theorem chun_mk (F : Fence) (n : Nat) (hF : F.fn 17) (hro : F.round = none) (k : Int) (w : World) :
    CallsIn F n Try.prog 17 #[.nilFunc, .int .i64 k] w fun e w' => e = .returned (.func (.func 31) #[] #[.pointer (some ⟨w.heap.size, 0, none⟩), .pointer (some ⟨w.heap.size + 1, 0, none⟩)]) ∧ w' = ((w.alloc (.cells #[.nilFunc] 26)).alloc (.cells #[.int .i64 k] 3)) := by
  refine callsIn_of_wp Try.func17 rfl hF ?_ hro
  simp only [Try.ntmps17, List.size_toArray, List.length_cons, List.length_nil, Nat.reduceAdd, Nat.reduceSub, Array.replicate_succ, Array.replicate_zero, List.push_toArray, List.append_toArray, List.nil_append, List.cons_append]
  gi_wp2
  go_ret
  exact ⟨rfl, rfl⟩
theorem step_mk (F : Fence) (n : Nat) (hF : F.fn 18) (hro : F.round = none)  (w : World) :
    CallsIn F n Try.prog 18 #[.nilFunc] w fun e w' => e = .returned (.func (.func 32) #[] #[.pointer (some ⟨w.heap.size, 0, none⟩)]) ∧ w' = (w.alloc (.cells #[.nilFunc] 26)) := by
  refine callsIn_of_wp Try.func18 rfl hF ?_ hro
  simp only [Try.ntmps18, List.size_toArray, List.length_cons, List.length_nil, Nat.reduceAdd, Nat.reduceSub, Array.replicate_succ, Array.replicate_zero, List.push_toArray, List.append_toArray, List.nil_append, List.cons_append]
  gi_wp2
  go_ret
  exact ⟨rfl, rfl⟩
theorem takef_mk (F : Fence) (n : Nat) (hF : F.fn 10) (hro : F.round = none) (f : Fn) (a b : Array Value) (k : Int) (w : World) :
    CallsIn F n Try.prog 10 #[.func f a b, .int .i64 k] w fun e w' => e = .returned (.func (.func 25) #[] #[.pointer (some ⟨w.heap.size + 1, 0, none⟩), .pointer (some ⟨w.heap.size, 0, none⟩)]) ∧ w' = (w.alloc (.cells #[.func f a b] 26)).alloc (.cells #[.int .i64 k] 3) := by
  refine callsIn_of_wp Try.func10 rfl hF ?_ hro
  simp only [Try.ntmps10, List.size_toArray, List.length_cons, List.length_nil, Nat.reduceAdd, Nat.reduceSub, Array.replicate_succ, Array.replicate_zero, List.push_toArray, List.append_toArray, List.nil_append, List.cons_append]
  gi_wp2
  go_ret
  exact ⟨rfl, rfl⟩
end Go.Proofs.Ytkklceblojcbkaa.Sq
