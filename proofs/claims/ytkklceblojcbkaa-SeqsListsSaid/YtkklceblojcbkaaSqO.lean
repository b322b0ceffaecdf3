/- Take of none at all; Of of an empty list. -/
import Derived.Test.YtkklceblojcbkaaSqM
import Derived.Test.YtkklceblojcbkaaSqE
namespace Go.Proofs.Ytkklceblojcbkaa.Sq
open Go.RowKit Go.Proofs.Ytkklceblojcbkaa
set_option linter.unusedVariables false
set_option maxRecDepth 100000
attribute [local go_sem] Oper.semAt_some
/-- Take of no more than none, whatever is behind it. -/
theorem take1_none (F : Fence) (n : Nat) (hF : ∀ k, F.fn k) (hro : F.round = none) (Bk : Nat) (p2 : Value) (k : Int) (P : Nat → Prop) (w : World) (hk0 : k ≤ 0) (hk : Row w Bk 3 #[.int .i64 k]) :
    Tells 2 5 F n Try.prog 25 #[.pointer (some ⟨Bk, 0, none⟩), p2] enc (Kp P 2) (Firsts []) (Next []) w := fun l J Jx W hW hJ hJx hY h0 => by
  have rk : Row W Bk 3 #[.int .i64 k] := (hW.block Bk hk.lt).trans hk
  have lk : Bk < W.heap.size := rk.lt
  have ck : W.cell? ⟨Bk, 0, none⟩ = some (.int .i64 k) := (rk.cell 0).trans rfl
  refine callsIn_of_wp_marks Try.func25 rfl (hF _) ?_ hro
  simp only [Try.ntmps25, List.size_toArray, List.length_cons, List.length_nil, Nat.reduceAdd, Nat.reduceSub, Array.replicate_succ, Array.replicate_zero, List.push_toArray, List.append_toArray, List.nil_append, List.cons_append]
  clear rk hk hW hY
  gi_wp2
  exact ⟨_, results_none rfl _ _ _, ⟨_, rfl⟩, [], .inl ⟨rfl, hJ [] W _ h0 (.inl ⟨none, grown_of_below ((Below.refl _ W).alloc (Nat.le_refl _) _), fun r e => by cases e⟩)⟩⟩
set_option maxHeartbeats 1000000 in
theorem clone_none (A : Option Addr) (c : Nat) (w : World) :
    Calls Try.prog 27 #[.slice A 0 c] w fun e w' => ∃ A', e = .returned (.slice A' 0 0) ∧ Below w.heap.size w w' := by
  have q22 : ∀ (w : World) (a : Option Addr) (n c n' c' : Nat), (binOp .eql 22 (.slice a n c) (.slice none n' c')).run Try.prog w = .ok (.bool a.isNone) w := fun w a n c n' c' => Lib.run_eql_slice_nil w _ _ a n c n' c' Try.underlying22
  obtain ⟨i0, hi0, hz0, hz1, hz2⟩ := info_parts int_info
  cases A with
  | none =>
    go_enter Try.func27, Try.ntmps27
    go_wp2
    go_ret
    exact ⟨none, rfl, Below.refl _ _⟩
  | some a =>
    go_enter Try.func27, Try.ntmps27
    go_wp2_with (at_builtin; go_loud (refine wpList_append_none rfl _ _ 22 rfl i0 Try.underlying22 hi0 rfl (Nat.le_refl _) _ _ rfl ?_); go_frame)
    go_ret
    exact ⟨_, rfl, (Below.refl _ w).alloc (Nat.le_refl _) _⟩
theorem seg_zero (w : World) (A : Option Addr) : Seg w 3 1 (.slice A 0 0) 0 (ints []) none := ⟨by simp [ints], _, 0, rfl, Nat.le_refl _, by unfold maxLen; omega, .inl ⟨rfl, rfl, fun _ => trivial⟩⟩
/-- Of any list. -/
theorem of_every (zs : List Int) (v : Value) (ob : Option Nat) (w : World) (h : Seg w 3 1 v zs.length (ints zs) ob) (hl : zs.length ≤ 1000000) :
    Calls Try.prog 11 #[v] w fun e w' => ∃ Bn A cap o2, e = .returned (.func (.func 28) #[] #[.pointer (some ⟨Bn, 0, none⟩)]) ∧ w'.cell? ⟨Bn, 0, none⟩ = some (.slice A zs.length cap) ∧ Bn < w'.heap.size ∧ Seg w' 3 1 (.slice A zs.length cap) zs.length (ints zs) o2 ∧ Below w.heap.size w w' := by
  rcases Nat.eq_zero_or_pos zs.length with h0 | hp
  · obtain rfl : zs = [] := List.eq_nil_of_length_eq_zero h0
    obtain ⟨A0, c0, rfl, _, _⟩ := h.form
    clear h
    go_enter Try.func11, Try.ntmps11
    go_wp2_with (go_at_call 27; refine (clone_none A0 c0 _).mono ?_; rintro e W2 ⟨A2, rfl, hb2⟩)
    go_ret
    exact ⟨_, A2, 0, none, rfl, row_new rfl, by simp, seg_zero _ _, hb2.alloc hb2.size _⟩
  · exact of_any zs v ob w h hp hl
theorem take_silent (F : Fence) (n : Nat) (hF : ∀ k, F.fn k) (hro : F.round = none) (Bk : Nat) (p2 : Value) (k : Int) (w : World) (hk0 : k ≤ 0) (hk : Row w Bk 3 #[.int .i64 k]) : Silent F n 25 #[.pointer (some ⟨Bk, 0, none⟩), p2] w := fun fn b1 b2 W hW => by
  have rk : Row W Bk 3 #[.int .i64 k] := (hW.block Bk hk.lt).trans hk
  have lk : Bk < W.heap.size := rk.lt
  have ck : W.cell? ⟨Bk, 0, none⟩ = some (.int .i64 k) := (rk.cell 0).trans rfl
  refine callsIn_of_wp_marks Try.func25 rfl (hF _) ?_ hro
  simp only [Try.ntmps25, List.size_toArray, List.length_cons, List.length_nil, Nat.reduceAdd, Nat.reduceSub, Array.replicate_succ, Array.replicate_zero, List.push_toArray, List.append_toArray, List.nil_append, List.cons_append]
  clear rk hk hW
  gi_wp2
  exact ⟨_, results_none rfl _ _ _, ⟨_, rfl⟩, (Below.refl _ W).alloc (Nat.le_refl _) _⟩
theorem some_none (F : Fence) (n : Nat) (hF : ∀ k, F.fn k) (hro : F.round = none) (hn : 9 ≤ n) (k : Int) (w : World) (f : Fn) (a b : Array Value) (hk0 : k ≤ 0) :
    CallsIn F n Try.prog 16 #[.func f a b, .int .i64 k] w fun e w' => e = .returned (.slice none 0 0) ∧ Below w.heap.size w w' := by
  have h1 : 1 ≤ n := by omega
  refine callsIn_of_wp_marks Try.func16 rfl (hF _) ?_ hro
  simp only [Try.ntmps16, List.size_toArray, List.length_cons, List.length_nil, Nat.reduceAdd, Nat.reduceSub, Array.replicate_succ, Array.replicate_zero, List.push_toArray, List.append_toArray, List.nil_append, List.cons_append]
  gi_wp2_with (gi_at_call 10; refine (takef_mk F (n - 1) (hF _) hro _ _ _ k _).mono ?_; rintro e w' ⟨rfl, rfl⟩)
  refine wpIn_range_silent hro h1 rfl (hF _) (enters_of Try.func25 (by kernel_rfl) rfl) (take_silent F (n - 1) hF hro _ _ k _ hk0 (by have := Row.made ((w.alloc (.cells #[.slice none 0 0] 22)).alloc (.cells #[.func f a b] 26)) 3 #[.int .i64 k]; rwa [World.size_alloc, World.size_alloc] at this)) ?_
  intro D W2 hD hb hK
  have e0 : W2.cell? ⟨w.heap.size, 0, none⟩ = some (.slice none 0 0) := (hb.cell (p := ⟨w.heap.size, 0, none⟩) (by simp; try omega)).trans ((((((Below.refl (w.alloc (.cells #[.slice none 0 0] 22)).heap.size _).alloc (Nat.le_refl _) _).alloc (by simp) _)).cell (p := ⟨w.heap.size, 0, none⟩) (by simp)).trans (row_new rfl))
  have hb0 : Below w.heap.size w W2 := ((((Below.refl _ w).alloc (Nat.le_refl _) _).alloc (by simp) _).alloc (by simp; omega) _).trans (hb.mono (by simp; try omega))
  have hDW : w.heap.size ≤ D := by simp at hD; omega
  clear hb
  gi_wp2
  refine ⟨by simp, .inl ⟨_, _, rfl, run_takeDeferred hK, ?_⟩⟩
  exact ⟨_, results_tmp rfl _ _ _, rfl, hb0.trans (belowK_b (w := w) (Nat.le_refl _) W2 D _ _ hDW hK rfl rfl)⟩
/-- Some of any list, any number. -/
theorem some_every (F : Fence) (n : Nat) (hF : ∀ k, F.fn k) (hro : F.round = none) (hn : 12 ≤ n) (Bn : Nat) (k : Int) (zs : List Int) (A : Option Addr) (cap : Nat) (oz : Option Nat) (w : World) (hz : zs.length ≤ 65536)
    (hB : w.cell? ⟨Bn, 0, none⟩ = some (.slice A zs.length cap)) (hBn : Bn < w.heap.size) (hS : Seg w 3 1 (.slice A zs.length cap) zs.length (ints zs) oz) :
    CallsIn F n Try.prog 16 #[.func (.func 28) #[] #[.pointer (some ⟨Bn, 0, none⟩)], .int .i64 k] w fun e w' => ∃ v ob, e = .returned v ∧ Seg w' 3 1 v (zs.take k.toNat).length (ints (zs.take k.toNat)) ob ∧ Below w.heap.size w w' := by
  by_cases hk : 0 < k
  · exact some_of F n hF hro hn Bn k zs A cap oz w hz hk hB hBn hS
  · refine (some_none F n hF hro (by omega) k w _ _ _ (by omega)).mono ?_
    rintro e w' ⟨rfl, hb⟩
    have e : k.toNat = 0 := by omega
    rw [e]
    exact ⟨_, none, rfl, seg_zero _ _, hb⟩
end Go.Proofs.Ytkklceblojcbkaa.Sq
