/- Take, Some, Count of what tells nothing (written by gen_sqc). -/
import Derived.Test.YtaimbkikiokenaaSqC
namespace Go.Proofs.Ytaimbkikiokenaa.Sq
open Go.RowKit Go.Proofs.Ytaimbkikiokenaa
set_option linter.unusedVariables false
set_option maxRecDepth 100000
attribute [local go_sem] Oper.semAt_some
theorem take_take (F : Fence) (n : Nat) (hF : ∀ k, F.fn k) (hro : F.round = none) (hn : 4 ≤ n) (B C : Nat) (k : Int) (p1 p2 : Value) (w : World) (hs : Silent F (n - 1 - 1) 57 #[p1, p2] w) (hB : B < w.heap.size) (hc : w.cell? ⟨B, 0, none⟩ = some (.int .i64 k)) (hC : C < w.heap.size) (hd : w.cell? ⟨C, 0, none⟩ = some (.func (.func 57) #[] #[p1, p2])) : Silent F n 57 #[.pointer (some ⟨B, 0, none⟩), .pointer (some ⟨C, 0, none⟩)] w := fun fn b1 b2 W hW => by
  have h1 : 1 ≤ n := by omega
  have c0 : W.cell? ⟨B, 0, none⟩ = some (.int .i64 k) := (hW.cell (p := ⟨B, 0, none⟩) hB).trans hc
  have d0 : W.cell? ⟨C, 0, none⟩ = some (.func (.func 57) #[] #[p1, p2]) := (hW.cell (p := ⟨C, 0, none⟩) hC).trans hd
  have hB' : B < W.heap.size := Nat.lt_of_lt_of_le hB hW.size
  have hC' : C < W.heap.size := Nat.lt_of_lt_of_le hC hW.size
  have HS := Lib.hid (hs.call hW)
  refine callsIn_of_wp_marks Try.func57 rfl (hF _) ?_ hro
  simp only [Try.ntmps57, List.size_toArray, List.length_cons, List.length_nil, Nat.reduceAdd, Nat.reduceSub, Array.replicate_succ, Array.replicate_zero, List.push_toArray, List.append_toArray, List.nil_append, List.cons_append]
  clear hc hd hW hs
  by_cases hk : k ≤ 0
  · gi_wp2
    exact ⟨_, results_none rfl _ _ _, ⟨_, rfl⟩, (Below.refl _ W).alloc (Nat.le_refl _) _⟩
  · gi_wp2_with (gi_at_call 55; refine (told_in F (n - 1) (hF _) hro (.func (.func 57) #[] #[p1, p2]) ⟨_, _, _, .inl rfl⟩ _).mono ?_; rintro e w' ⟨rfl, rfl⟩)
    refine wpIn_range_silent hro h1 rfl (hF _) (enters_of Try.func93 (by kernel_rfl) rfl) (told_take F (n - 1) hF hro _ p1 p2 _ (HS.out.call (by go_grown)) (by simp) (row_new (by simp)) (by omega)) ?_
    intro D W2 hD hb hK
    have hb0 : Below W.heap.size W W2 := ((((Below.refl _ W).alloc (by first | exact Nat.le_refl _ | (simp; done) | (simp; omega)) _).alloc (by first | exact Nat.le_refl _ | (simp; done) | (simp; omega)) _).alloc (by first | exact Nat.le_refl _ | (simp; done) | (simp; omega)) _).trans (hb.mono (by simp; try omega))
    have hDW : W.heap.size ≤ D := by simp at hD; omega
    refine ⟨by simp, .inl ⟨_, _, rfl, run_takeDeferred hK, ?_⟩⟩
    exact ⟨_, results_none rfl _ _ _, ⟨_, rfl⟩, hb0.trans (belowK_b (w := W) (Nat.le_refl _) W2 D _ _ hDW hK rfl rfl)⟩
theorem take_skip (F : Fence) (n : Nat) (hF : ∀ k, F.fn k) (hro : F.round = none) (hn : 4 ≤ n) (B C : Nat) (k : Int) (p1 p2 : Value) (w : World) (hs : Silent F (n - 1 - 1) 58 #[p1, p2] w) (hB : B < w.heap.size) (hc : w.cell? ⟨B, 0, none⟩ = some (.int .i64 k)) (hC : C < w.heap.size) (hd : w.cell? ⟨C, 0, none⟩ = some (.func (.func 58) #[] #[p1, p2])) : Silent F n 57 #[.pointer (some ⟨B, 0, none⟩), .pointer (some ⟨C, 0, none⟩)] w := fun fn b1 b2 W hW => by
  have h1 : 1 ≤ n := by omega
  have c0 : W.cell? ⟨B, 0, none⟩ = some (.int .i64 k) := (hW.cell (p := ⟨B, 0, none⟩) hB).trans hc
  have d0 : W.cell? ⟨C, 0, none⟩ = some (.func (.func 58) #[] #[p1, p2]) := (hW.cell (p := ⟨C, 0, none⟩) hC).trans hd
  have hB' : B < W.heap.size := Nat.lt_of_lt_of_le hB hW.size
  have hC' : C < W.heap.size := Nat.lt_of_lt_of_le hC hW.size
  have HS := Lib.hid (hs.call hW)
  refine callsIn_of_wp_marks Try.func57 rfl (hF _) ?_ hro
  simp only [Try.ntmps57, List.size_toArray, List.length_cons, List.length_nil, Nat.reduceAdd, Nat.reduceSub, Array.replicate_succ, Array.replicate_zero, List.push_toArray, List.append_toArray, List.nil_append, List.cons_append]
  clear hc hd hW hs
  by_cases hk : k ≤ 0
  · gi_wp2
    exact ⟨_, results_none rfl _ _ _, ⟨_, rfl⟩, (Below.refl _ W).alloc (Nat.le_refl _) _⟩
  · gi_wp2_with (gi_at_call 55; refine (told_in F (n - 1) (hF _) hro (.func (.func 58) #[] #[p1, p2]) ⟨_, _, _, .inl rfl⟩ _).mono ?_; rintro e w' ⟨rfl, rfl⟩)
    refine wpIn_range_silent hro h1 rfl (hF _) (enters_of Try.func93 (by kernel_rfl) rfl) (told_skip F (n - 1) hF hro _ p1 p2 _ (HS.out.call (by go_grown)) (by simp) (row_new (by simp)) (by omega)) ?_
    intro D W2 hD hb hK
    have hb0 : Below W.heap.size W W2 := ((((Below.refl _ W).alloc (by first | exact Nat.le_refl _ | (simp; done) | (simp; omega)) _).alloc (by first | exact Nat.le_refl _ | (simp; done) | (simp; omega)) _).alloc (by first | exact Nat.le_refl _ | (simp; done) | (simp; omega)) _).trans (hb.mono (by simp; try omega))
    have hDW : W.heap.size ≤ D := by simp at hD; omega
    refine ⟨by simp, .inl ⟨_, _, rfl, run_takeDeferred hK, ?_⟩⟩
    exact ⟨_, results_none rfl _ _ _, ⟨_, rfl⟩, hb0.trans (belowK_b (w := W) (Nat.le_refl _) W2 D _ _ hDW hK rfl rfl)⟩
theorem take_both (F : Fence) (n : Nat) (hF : ∀ k, F.fn k) (hro : F.round = none) (hn : 4 ≤ n) (B C : Nat) (k : Int) (p1 p2 : Value) (w : World) (hs : Silent F (n - 1 - 1) 59 #[p1, p2] w) (hB : B < w.heap.size) (hc : w.cell? ⟨B, 0, none⟩ = some (.int .i64 k)) (hC : C < w.heap.size) (hd : w.cell? ⟨C, 0, none⟩ = some (.func (.func 59) #[] #[p1, p2])) : Silent F n 57 #[.pointer (some ⟨B, 0, none⟩), .pointer (some ⟨C, 0, none⟩)] w := fun fn b1 b2 W hW => by
  have h1 : 1 ≤ n := by omega
  have c0 : W.cell? ⟨B, 0, none⟩ = some (.int .i64 k) := (hW.cell (p := ⟨B, 0, none⟩) hB).trans hc
  have d0 : W.cell? ⟨C, 0, none⟩ = some (.func (.func 59) #[] #[p1, p2]) := (hW.cell (p := ⟨C, 0, none⟩) hC).trans hd
  have hB' : B < W.heap.size := Nat.lt_of_lt_of_le hB hW.size
  have hC' : C < W.heap.size := Nat.lt_of_lt_of_le hC hW.size
  have HS := Lib.hid (hs.call hW)
  refine callsIn_of_wp_marks Try.func57 rfl (hF _) ?_ hro
  simp only [Try.ntmps57, List.size_toArray, List.length_cons, List.length_nil, Nat.reduceAdd, Nat.reduceSub, Array.replicate_succ, Array.replicate_zero, List.push_toArray, List.append_toArray, List.nil_append, List.cons_append]
  clear hc hd hW hs
  by_cases hk : k ≤ 0
  · gi_wp2
    exact ⟨_, results_none rfl _ _ _, ⟨_, rfl⟩, (Below.refl _ W).alloc (Nat.le_refl _) _⟩
  · gi_wp2_with (gi_at_call 55; refine (told_in F (n - 1) (hF _) hro (.func (.func 59) #[] #[p1, p2]) ⟨_, _, _, .inl rfl⟩ _).mono ?_; rintro e w' ⟨rfl, rfl⟩)
    refine wpIn_range_silent hro h1 rfl (hF _) (enters_of Try.func93 (by kernel_rfl) rfl) (told_both F (n - 1) hF hro _ p1 p2 _ (HS.out.call (by go_grown)) (by simp) (row_new (by simp)) (by omega)) ?_
    intro D W2 hD hb hK
    have hb0 : Below W.heap.size W W2 := ((((Below.refl _ W).alloc (by first | exact Nat.le_refl _ | (simp; done) | (simp; omega)) _).alloc (by first | exact Nat.le_refl _ | (simp; done) | (simp; omega)) _).alloc (by first | exact Nat.le_refl _ | (simp; done) | (simp; omega)) _).trans (hb.mono (by simp; try omega))
    have hDW : W.heap.size ≤ D := by simp at hD; omega
    refine ⟨by simp, .inl ⟨_, _, rfl, run_takeDeferred hK, ?_⟩⟩
    exact ⟨_, results_none rfl _ _ _, ⟨_, rfl⟩, hb0.trans (belowK_b (w := W) (Nat.le_refl _) W2 D _ _ hDW hK rfl rfl)⟩
theorem take_once (F : Fence) (n : Nat) (hF : ∀ k, F.fn k) (hro : F.round = none) (hn : 4 ≤ n) (B C : Nat) (k : Int) (p1 : Value) (w : World) (hs : Silent F (n - 1 - 1) 60 #[p1] w) (hB : B < w.heap.size) (hc : w.cell? ⟨B, 0, none⟩ = some (.int .i64 k)) (hC : C < w.heap.size) (hd : w.cell? ⟨C, 0, none⟩ = some (.func (.func 60) #[] #[p1])) : Silent F n 57 #[.pointer (some ⟨B, 0, none⟩), .pointer (some ⟨C, 0, none⟩)] w := fun fn b1 b2 W hW => by
  have h1 : 1 ≤ n := by omega
  have c0 : W.cell? ⟨B, 0, none⟩ = some (.int .i64 k) := (hW.cell (p := ⟨B, 0, none⟩) hB).trans hc
  have d0 : W.cell? ⟨C, 0, none⟩ = some (.func (.func 60) #[] #[p1]) := (hW.cell (p := ⟨C, 0, none⟩) hC).trans hd
  have hB' : B < W.heap.size := Nat.lt_of_lt_of_le hB hW.size
  have hC' : C < W.heap.size := Nat.lt_of_lt_of_le hC hW.size
  have HS := Lib.hid (hs.call hW)
  refine callsIn_of_wp_marks Try.func57 rfl (hF _) ?_ hro
  simp only [Try.ntmps57, List.size_toArray, List.length_cons, List.length_nil, Nat.reduceAdd, Nat.reduceSub, Array.replicate_succ, Array.replicate_zero, List.push_toArray, List.append_toArray, List.nil_append, List.cons_append]
  clear hc hd hW hs
  by_cases hk : k ≤ 0
  · gi_wp2
    exact ⟨_, results_none rfl _ _ _, ⟨_, rfl⟩, (Below.refl _ W).alloc (Nat.le_refl _) _⟩
  · gi_wp2_with (gi_at_call 55; refine (told_in F (n - 1) (hF _) hro (.func (.func 60) #[] #[p1]) ⟨_, _, _, .inl rfl⟩ _).mono ?_; rintro e w' ⟨rfl, rfl⟩)
    refine wpIn_range_silent hro h1 rfl (hF _) (enters_of Try.func93 (by kernel_rfl) rfl) (told_once F (n - 1) hF hro _ p1 _ (HS.out.call (by go_grown)) (by simp) (row_new (by simp)) (by omega)) ?_
    intro D W2 hD hb hK
    have hb0 : Below W.heap.size W W2 := ((((Below.refl _ W).alloc (by first | exact Nat.le_refl _ | (simp; done) | (simp; omega)) _).alloc (by first | exact Nat.le_refl _ | (simp; done) | (simp; omega)) _).alloc (by first | exact Nat.le_refl _ | (simp; done) | (simp; omega)) _).trans (hb.mono (by simp; try omega))
    have hDW : W.heap.size ≤ D := by simp at hD; omega
    refine ⟨by simp, .inl ⟨_, _, rfl, run_takeDeferred hK, ?_⟩⟩
    exact ⟨_, results_none rfl _ _ _, ⟨_, rfl⟩, hb0.trans (belowK_b (w := W) (Nat.le_refl _) W2 D _ _ hDW hK rfl rfl)⟩
theorem skip_mk (F : Fence) (n : Nat) (hF : F.fn 14) (hro : F.round = none) (k : Int) (w : World) :
    CallsIn F n Try.prog 14 #[.nilFunc, .int .i64 k] w fun e w' => e = .returned (.func (.func 58) #[] #[.pointer (some ⟨w.heap.size, 0, none⟩), .pointer (some ⟨w.heap.size + 1, 0, none⟩)]) ∧ w' = ((w.alloc (.cells #[.nilFunc] 24)).alloc (.cells #[.int .i64 k] 3)) := by
  refine callsIn_of_wp Try.func14 rfl hF ?_ hro
  simp only [Try.ntmps14, List.size_toArray, List.length_cons, List.length_nil, Nat.reduceAdd, Nat.reduceSub, Array.replicate_succ, Array.replicate_zero, List.push_toArray, List.append_toArray, List.nil_append, List.cons_append]
  gi_wp2
  go_ret
  exact ⟨rfl, rfl⟩
theorem take_mk (F : Fence) (n : Nat) (hF : F.fn 13) (hro : F.round = none) (k : Int) (w : World) :
    CallsIn F n Try.prog 13 #[.nilFunc, .int .i64 k] w fun e w' => e = .returned (.func (.func 57) #[] #[.pointer (some ⟨w.heap.size + 1, 0, none⟩), .pointer (some ⟨w.heap.size, 0, none⟩)]) ∧ w' = ((w.alloc (.cells #[.nilFunc] 24)).alloc (.cells #[.int .i64 k] 3)) := by
  refine callsIn_of_wp Try.func13 rfl hF ?_ hro
  simp only [Try.ntmps13, List.size_toArray, List.length_cons, List.length_nil, Nat.reduceAdd, Nat.reduceSub, Array.replicate_succ, Array.replicate_zero, List.push_toArray, List.append_toArray, List.nil_append, List.cons_append]
  gi_wp2
  go_ret
  exact ⟨rfl, rfl⟩
theorem both_mk (F : Fence) (n : Nat) (hF : F.fn 15) (hro : F.round = none)  (w : World) :
    CallsIn F n Try.prog 15 #[.nilFunc, .nilFunc] w fun e w' => e = .returned (.func (.func 59) #[] #[.pointer (some ⟨w.heap.size, 0, none⟩), .pointer (some ⟨w.heap.size + 1, 0, none⟩)]) ∧ w' = ((w.alloc (.cells #[.nilFunc] 24)).alloc (.cells #[.nilFunc] 24)) := by
  refine callsIn_of_wp Try.func15 rfl hF ?_ hro
  simp only [Try.ntmps15, List.size_toArray, List.length_cons, List.length_nil, Nat.reduceAdd, Nat.reduceSub, Array.replicate_succ, Array.replicate_zero, List.push_toArray, List.append_toArray, List.nil_append, List.cons_append]
  gi_wp2
  go_ret
  exact ⟨rfl, rfl⟩
theorem once_mk (F : Fence) (n : Nat) (hF : F.fn 16) (hro : F.round = none)  (w : World) :
    CallsIn F n Try.prog 16 #[.nilFunc] w fun e w' => e = .returned (.func (.func 60) #[] #[.pointer (some ⟨w.heap.size, 0, none⟩)]) ∧ w' = (w.alloc (.cells #[.nilFunc] 24)) := by
  refine callsIn_of_wp Try.func16 rfl hF ?_ hro
  simp only [Try.ntmps16, List.size_toArray, List.length_cons, List.length_nil, Nat.reduceAdd, Nat.reduceSub, Array.replicate_succ, Array.replicate_zero, List.push_toArray, List.append_toArray, List.nil_append, List.cons_append]
  gi_wp2
  go_ret
  exact ⟨rfl, rfl⟩
theorem chun_mk (F : Fence) (n : Nat) (hF : F.fn 19) (hro : F.round = none) (k : Int) (w : World) :
    CallsIn F n Try.prog 19 #[.nilFunc, .int .i64 k] w fun e w' => e = .returned (.func (.func 63) #[] #[.pointer (some ⟨w.heap.size, 0, none⟩), .pointer (some ⟨w.heap.size + 1, 0, none⟩)]) ∧ w' = ((w.alloc (.cells #[.nilFunc] 24)).alloc (.cells #[.int .i64 k] 3)) := by
  refine callsIn_of_wp Try.func19 rfl hF ?_ hro
  simp only [Try.ntmps19, List.size_toArray, List.length_cons, List.length_nil, Nat.reduceAdd, Nat.reduceSub, Array.replicate_succ, Array.replicate_zero, List.push_toArray, List.append_toArray, List.nil_append, List.cons_append]
  gi_wp2
  go_ret
  exact ⟨rfl, rfl⟩
theorem step_mk (F : Fence) (n : Nat) (hF : F.fn 11) (hro : F.round = none)  (w : World) :
    CallsIn F n Try.prog 11 #[.nilFunc] w fun e w' => e = .returned (.func (.func 56) #[] #[.pointer (some ⟨w.heap.size, 0, none⟩)]) ∧ w' = (w.alloc (.cells #[.nilFunc] 24)) := by
  refine callsIn_of_wp Try.func11 rfl hF ?_ hro
  simp only [Try.ntmps11, List.size_toArray, List.length_cons, List.length_nil, Nat.reduceAdd, Nat.reduceSub, Array.replicate_succ, Array.replicate_zero, List.push_toArray, List.append_toArray, List.nil_append, List.cons_append]
  gi_wp2
  go_ret
  exact ⟨rfl, rfl⟩
theorem takef_mk (F : Fence) (n : Nat) (hF : F.fn 13) (hro : F.round = none) (f : Fn) (a b : Array Value) (k : Int) (w : World) :
    CallsIn F n Try.prog 13 #[.func f a b, .int .i64 k] w fun e w' => e = .returned (.func (.func 57) #[] #[.pointer (some ⟨w.heap.size + 1, 0, none⟩), .pointer (some ⟨w.heap.size, 0, none⟩)]) ∧ w' = (w.alloc (.cells #[.func f a b] 24)).alloc (.cells #[.int .i64 k] 3) := by
  refine callsIn_of_wp Try.func13 rfl hF ?_ hro
  simp only [Try.ntmps13, List.size_toArray, List.length_cons, List.length_nil, Nat.reduceAdd, Nat.reduceSub, Array.replicate_succ, Array.replicate_zero, List.push_toArray, List.append_toArray, List.nil_append, List.cons_append]
  gi_wp2
  go_ret
  exact ⟨rfl, rfl⟩
end Go.Proofs.Ytaimbkikiokenaa.Sq
