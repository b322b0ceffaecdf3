/- Chains of pairs and bounds, thing by thing: the iterator's contract (written by gen_rnf). -/
import Derived.Test.YtaimbkikiokenaaRnA
import Derived.RangeFuncNested
import Derived.RangeFuncBound
import Derived.RangeFuncCalls
import Derived.RangeFuncLeaves
import Derived.RangeFuncFrom
import Derived.Shelf.Abstract
import Derived.OwnWalkIn
import Derived.TacticsInMore
import Derived.LoopNIn
import Derived.LoopIn
import Derived.Deep.OwnRows
namespace Go.Proofs.Ytaimbkikiokenaa.Rn
open Go.RowKit Go.Proofs.Ytaimbkikiokenaa
set_option linter.unusedVariables false
attribute [local go_sem] Oper.semAt_some
/-- How many things a chain has, read off its top. -/
def leftC (K : Nat) (w : World) : Value → Nat
  | .pointer (some a) => match w.cell? ⟨a.block, K + 1, none⟩ with
    | some v => (intOf v).toNat
    | none => 0
  | _ => 0
theorem leftC_eq {K : Nat} {w : World} {B : Nat} {p : Option Addr} {xs : List (List Value)} (h : Ch K w B p xs) : leftC K w (.pointer p) = xs.length := by
  cases xs with
  | nil =>
    obtain rfl : p = none := h
    rfl
  | cons x r =>
    obtain ⟨b, q, rfl, hb, hk, h0, h1, h2, hr⟩ := h
    simp only [leftC, h2, intOf, List.length_cons]
    omega
theorem two_of {x : List Value} (h : x.length = 2) : ∃ a b, x = [a, b] := by
  match x, h with
  | [a, b], _ => exact ⟨a, b, rfl⟩
theorem six_of {x : List Value} (h : x.length = 6) : ∃ a b c d e f, x = [a, b, c, d, e, f] := by
  match x, h with
  | [a, b, c, d, e, f], _ => exact ⟨a, b, c, d, e, f, rfl⟩

theorem plen_in (F : Fence) (n : Nat) (hF : F.fn 100) (hro : F.round = none) (p : Option Addr) (xs : List (List Value)) (B : Nat) (w : World) (h : Ch 2 w B p xs) :
    CallsIn F n Try.prog 100 #[.pointer p] w fun e w' => e = .returned (.int .i64 xs.length) ∧ w = w' := by
  refine callsIn_of_wp Try.func100 rfl hF ?_ hro
  simp only [Try.ntmps100, List.size_toArray, List.length_cons, List.length_nil, Nat.reduceAdd, Nat.reduceSub, Array.replicate_succ, Array.replicate_zero, List.push_toArray, List.append_toArray, List.nil_append, List.cons_append]
  cases xs with
  | nil =>
    obtain rfl : p = none := h
    gi_wp2
    go_ret
    exact ⟨rfl, rfl⟩
  | cons x r =>
    obtain ⟨b, q, rfl, hb, hk, h0, h1, h2, hr⟩ := h
    replace h2 : w.cell? ⟨b, 3, none⟩ = some (.int .i64 ((r.length : Int) + 1)) := h2
    clear hr h0 h1
    gi_wp2
    go_ret
    exact ⟨ret_int (by simp), rfl⟩
theorem pback_in (F : Fence) (n : Nat) (hF : F.fn 107) (hro : F.round = none) (p : Option Addr) (w : World) :
    CallsIn F n Try.prog 107 #[.pointer p] w fun e w' => e = .returned (.func (.func 122) #[] #[.pointer (some ⟨w.heap.size, 0, none⟩)]) ∧ w' = w.alloc (.cells #[.pointer p] 47) := by
  refine callsIn_of_wp Try.func107 rfl hF ?_ hro
  simp only [Try.ntmps107, List.size_toArray, List.length_cons, List.length_nil, Nat.reduceAdd, Nat.reduceSub, Array.replicate_succ, Array.replicate_zero, List.push_toArray, List.append_toArray, List.nil_append, List.cons_append]
  gi_wp2
  go_ret
  exact ⟨rfl, rfl⟩
set_option maxRecDepth 100000 in
set_option maxHeartbeats 1000000 in
theorem pback1_in (F : Fence) (n : Nat) (h1 : F.fn 122) (h2 : F.fn 100) (hro : F.round = none) (hn : 1 ≤ n) (l Bn n₀ : Nat) (p0 : Option Addr) {α : Type} (f : α → List Value) (xs : List α) (J Jx : List α → World → Prop)
    (hY : ∀ pre x W, J pre W → pre.length < xs.length → YieldAt F (n - 1) Try.prog l #[.agg (f x).toArray] W fun e W' =>
      (e = .returned (.bool true) ∧ J (pre ++ [x]) W' ∧ Below n₀ W W') ∨ (e = .returned (.bool false) ∧ Jx (pre ++ [x]) W'))
    (W : World) (hBn : W.cell? ⟨Bn, 0, none⟩ = some (.pointer p0)) (hL : Ch 2 W n₀ p0 (xs.map f)) (h0 : J [] W) :
    CallsIn F n Try.prog 122 #[.func (.yield l) #[] #[], .pointer (some ⟨Bn, 0, none⟩)] W fun e W' => (∃ v, e = .returned v) ∧
      ((∃ ys, ys = xs ∧ J ys W') ∨ (∃ pre, pre <+: xs ∧ Jx pre W')) := by
  refine callsIn_of_wp Try.func122 rfl h1 ?_ hro
  simp only [Try.ntmps122, List.size_toArray, List.length_cons, List.length_nil, Nat.reduceAdd, Nat.reduceSub, Array.replicate_succ, Array.replicate_zero, List.push_toArray, List.append_toArray, List.nil_append, List.cons_append]
  gi_wp2
  gi_loopw [3] (fun p wr => ∃ (pre rest : List α) (q : Option Addr), p = .pointer q ∧ Hid (xs = pre ++ rest) ∧ Hid (Ch 2 wr n₀ q (rest.map f)) ∧ J pre wr)
    (fun p wr => leftC 2 wr p)
  case atStart => exact ⟨[], xs, p0, rfl, rfl, hL, h0⟩
  case round =>
    obtain ⟨pre, rest, q, rfl, hx, hl, hJs⟩ := hrel
    cases rest with
    | nil =>
      obtain rfl : q = none := hl.out
      gi_wp2_with (gi_at_call 100; refine (plen_in F _ h2 hro none [] n₀ _ rfl).mono ?_; rintro e w' ⟨rfl, rfl⟩)
      go_end0
      exact ⟨⟨_, rfl⟩, .inl ⟨pre, by have := hx.out; simp [this], hJs⟩⟩
    | cons x rest =>
      have hl' : Ch 2 wr n₀ q (f x :: rest.map f) := hl.out
      obtain ⟨b, q', rfl, hb, hxk, hv, hq, hc, hr⟩ := hl'
      have HR := Lib.hid hr
      obtain ⟨c0, c1, hfx⟩ := two_of hxk
      have hYx := hY pre x wr hJs (by rw [hx.out]; simp)
      rw [hfx] at hYx hv
      obtain ⟨fn, tmps, assign, body, hy, hR⟩ := hYx
      have HL2 : Hid (Ch 2 wr n₀ (some ⟨b, 0, none⟩) ([c0, c1] :: rest.map f)) := by rw [← hfx]; exact hl.out
      have v0 : wr.cell? ⟨b, 0, none⟩ = some c0 := hv 0 _ rfl
      have v1 : wr.cell? ⟨b, 1, none⟩ = some c1 := hv 1 _ rfl
      replace hq : wr.cell? ⟨b, 2, none⟩ = some (.pointer q') := hq
      have hpos : 0 < ([c0, c1] :: rest.map f).length := by simp
      have hpos' : (0 : Int) < ((rest.map f).length : Int) + 1 := by omega
      clear hr hc hv hxk hfx
      gi_wp2_with (gi_at_call 100; refine (plen_in F _ h2 hro _ ([c0, c1] :: rest.map f) n₀ _ HL2.out).mono ?_; rintro e w' ⟨rfl, rfl⟩)
      refine hR.mono ?_
      rintro e W3 (⟨rfl, hJ3, hk3⟩ | ⟨rfl, hJx3⟩)
      · have hq3 : W3.cell? ⟨b, 2, none⟩ = some (.pointer q') := (hk3.cell (p := ⟨b, 2, none⟩) hb).trans hq
        gi_wp2
        go_roundw
        case rel => exact ⟨pre ++ [x], rest, q', rfl, by have := hx.out; unfold Hid; simp [this], HR.out.below hk3 (Nat.le_refl _), hJ3⟩
        case measure => rw [leftC_eq (HR.out.below hk3 (Nat.le_refl _)), leftC_eq hl.out]; simp
      · gi_wp2
        refine bodyPost_ret (results_none rfl _ _ _) rfl ?_
        exact ⟨⟨_, rfl⟩, .inr ⟨pre ++ [x], ⟨rest, by have := hx.out; simp [this]⟩, hJx3⟩⟩
theorem pback_stops (F : Fence) (n : Nat) (h1 : F.fn 122) (h2 : F.fn 100) (hro : F.round = none) (hn : 1 ≤ n) (Bn n₀ : Nat) (p0 : Option Addr) {α : Type} (f : α → List Value) (xs : List α) (w : World) (hBn : Bn < w.heap.size) (hn₀ : n₀ ≤ w.heap.size)
    (hc : w.cell? ⟨Bn, 0, none⟩ = some (.pointer p0)) (hL : Ch 2 w n₀ p0 (xs.map f)) :
    SeqStopsK F n Try.prog 122 #[.pointer (some ⟨Bn, 0, none⟩)] (fun x : α => #[Value.agg (f x).toArray]) (Below n₀) (fun ys => ys = xs) (fun pre => pre <+: xs) xs.length w := fun l J Jx W hW _ _ hY h0 =>
  pback1_in F n h1 h2 hro hn l Bn n₀ p0 f xs J Jx hY W ((hW.cell (p := ⟨Bn, 0, none⟩) hBn).trans hc) (hL.below (hW.mono hn₀) (Nat.le_refl _)) h0

theorem blen_in (F : Fence) (n : Nat) (hF : F.fn 105) (hro : F.round = none) (p : Option Addr) (xs : List (List Value)) (B : Nat) (w : World) (h : Ch 6 w B p xs) :
    CallsIn F n Try.prog 105 #[.pointer p] w fun e w' => e = .returned (.int .i64 xs.length) ∧ w = w' := by
  refine callsIn_of_wp Try.func105 rfl hF ?_ hro
  simp only [Try.ntmps105, List.size_toArray, List.length_cons, List.length_nil, Nat.reduceAdd, Nat.reduceSub, Array.replicate_succ, Array.replicate_zero, List.push_toArray, List.append_toArray, List.nil_append, List.cons_append]
  cases xs with
  | nil =>
    obtain rfl : p = none := h
    gi_wp2
    go_ret
    exact ⟨rfl, rfl⟩
  | cons x r =>
    obtain ⟨b, q, rfl, hb, hk, h0, h1, h2, hr⟩ := h
    replace h2 : w.cell? ⟨b, 7, none⟩ = some (.int .i64 ((r.length : Int) + 1)) := h2
    clear hr h0 h1
    gi_wp2
    go_ret
    exact ⟨ret_int (by simp), rfl⟩
theorem bback_in (F : Fence) (n : Nat) (hF : F.fn 121) (hro : F.round = none) (p : Option Addr) (w : World) :
    CallsIn F n Try.prog 121 #[.pointer p] w fun e w' => e = .returned (.func (.func 130) #[] #[.pointer (some ⟨w.heap.size, 0, none⟩)]) ∧ w' = w.alloc (.cells #[.pointer p] 48) := by
  refine callsIn_of_wp Try.func121 rfl hF ?_ hro
  simp only [Try.ntmps121, List.size_toArray, List.length_cons, List.length_nil, Nat.reduceAdd, Nat.reduceSub, Array.replicate_succ, Array.replicate_zero, List.push_toArray, List.append_toArray, List.nil_append, List.cons_append]
  gi_wp2
  go_ret
  exact ⟨rfl, rfl⟩
set_option maxRecDepth 100000 in
set_option maxHeartbeats 1000000 in
theorem bback1_in (F : Fence) (n : Nat) (h1 : F.fn 130) (h2 : F.fn 105) (hro : F.round = none) (hn : 1 ≤ n) (l Bn n₀ : Nat) (p0 : Option Addr) {α : Type} (f : α → List Value) (xs : List α) (J Jx : List α → World → Prop)
    (hY : ∀ pre x W, J pre W → pre.length < xs.length → YieldAt F (n - 1) Try.prog l #[.agg (f x).toArray] W fun e W' =>
      (e = .returned (.bool true) ∧ J (pre ++ [x]) W' ∧ Below n₀ W W') ∨ (e = .returned (.bool false) ∧ Jx (pre ++ [x]) W'))
    (W : World) (hBn : W.cell? ⟨Bn, 0, none⟩ = some (.pointer p0)) (hL : Ch 6 W n₀ p0 (xs.map f)) (h0 : J [] W) :
    CallsIn F n Try.prog 130 #[.func (.yield l) #[] #[], .pointer (some ⟨Bn, 0, none⟩)] W fun e W' => (∃ v, e = .returned v) ∧
      ((∃ ys, ys = xs ∧ J ys W') ∨ (∃ pre, pre <+: xs ∧ Jx pre W')) := by
  refine callsIn_of_wp Try.func130 rfl h1 ?_ hro
  simp only [Try.ntmps130, List.size_toArray, List.length_cons, List.length_nil, Nat.reduceAdd, Nat.reduceSub, Array.replicate_succ, Array.replicate_zero, List.push_toArray, List.append_toArray, List.nil_append, List.cons_append]
  gi_wp2
  gi_loopw [3] (fun p wr => ∃ (pre rest : List α) (q : Option Addr), p = .pointer q ∧ Hid (xs = pre ++ rest) ∧ Hid (Ch 6 wr n₀ q (rest.map f)) ∧ J pre wr)
    (fun p wr => leftC 6 wr p)
  case atStart => exact ⟨[], xs, p0, rfl, rfl, hL, h0⟩
  case round =>
    obtain ⟨pre, rest, q, rfl, hx, hl, hJs⟩ := hrel
    cases rest with
    | nil =>
      obtain rfl : q = none := hl.out
      gi_wp2_with (gi_at_call 105; refine (blen_in F _ h2 hro none [] n₀ _ rfl).mono ?_; rintro e w' ⟨rfl, rfl⟩)
      go_end0
      exact ⟨⟨_, rfl⟩, .inl ⟨pre, by have := hx.out; simp [this], hJs⟩⟩
    | cons x rest =>
      have hl' : Ch 6 wr n₀ q (f x :: rest.map f) := hl.out
      obtain ⟨b, q', rfl, hb, hxk, hv, hq, hc, hr⟩ := hl'
      have HR := Lib.hid hr
      obtain ⟨c0, c1, c2, c3, c4, c5, hfx⟩ := six_of hxk
      have hYx := hY pre x wr hJs (by rw [hx.out]; simp)
      rw [hfx] at hYx hv
      obtain ⟨fn, tmps, assign, body, hy, hR⟩ := hYx
      have HL2 : Hid (Ch 6 wr n₀ (some ⟨b, 0, none⟩) ([c0, c1, c2, c3, c4, c5] :: rest.map f)) := by rw [← hfx]; exact hl.out
      have v0 : wr.cell? ⟨b, 0, none⟩ = some c0 := hv 0 _ rfl
      have v1 : wr.cell? ⟨b, 1, none⟩ = some c1 := hv 1 _ rfl
      have v2 : wr.cell? ⟨b, 2, none⟩ = some c2 := hv 2 _ rfl
      have v3 : wr.cell? ⟨b, 3, none⟩ = some c3 := hv 3 _ rfl
      have v4 : wr.cell? ⟨b, 4, none⟩ = some c4 := hv 4 _ rfl
      have v5 : wr.cell? ⟨b, 5, none⟩ = some c5 := hv 5 _ rfl
      replace hq : wr.cell? ⟨b, 6, none⟩ = some (.pointer q') := hq
      have hpos : 0 < ([c0, c1, c2, c3, c4, c5] :: rest.map f).length := by simp
      have hpos' : (0 : Int) < ((rest.map f).length : Int) + 1 := by omega
      clear hr hc hv hxk hfx
      gi_wp2_with (gi_at_call 105; refine (blen_in F _ h2 hro _ ([c0, c1, c2, c3, c4, c5] :: rest.map f) n₀ _ HL2.out).mono ?_; rintro e w' ⟨rfl, rfl⟩)
      refine hR.mono ?_
      rintro e W3 (⟨rfl, hJ3, hk3⟩ | ⟨rfl, hJx3⟩)
      · have hq3 : W3.cell? ⟨b, 6, none⟩ = some (.pointer q') := (hk3.cell (p := ⟨b, 6, none⟩) hb).trans hq
        gi_wp2
        go_roundw
        case rel => exact ⟨pre ++ [x], rest, q', rfl, by have := hx.out; unfold Hid; simp [this], HR.out.below hk3 (Nat.le_refl _), hJ3⟩
        case measure => rw [leftC_eq (HR.out.below hk3 (Nat.le_refl _)), leftC_eq hl.out]; simp
      · gi_wp2
        refine bodyPost_ret (results_none rfl _ _ _) rfl ?_
        exact ⟨⟨_, rfl⟩, .inr ⟨pre ++ [x], ⟨rest, by have := hx.out; simp [this]⟩, hJx3⟩⟩
theorem bback_stops (F : Fence) (n : Nat) (h1 : F.fn 130) (h2 : F.fn 105) (hro : F.round = none) (hn : 1 ≤ n) (Bn n₀ : Nat) (p0 : Option Addr) {α : Type} (f : α → List Value) (xs : List α) (w : World) (hBn : Bn < w.heap.size) (hn₀ : n₀ ≤ w.heap.size)
    (hc : w.cell? ⟨Bn, 0, none⟩ = some (.pointer p0)) (hL : Ch 6 w n₀ p0 (xs.map f)) :
    SeqStopsK F n Try.prog 130 #[.pointer (some ⟨Bn, 0, none⟩)] (fun x : α => #[Value.agg (f x).toArray]) (Below n₀) (fun ys => ys = xs) (fun pre => pre <+: xs) xs.length w := fun l J Jx W hW _ _ hY h0 =>
  bback1_in F n h1 h2 hro hn l Bn n₀ p0 f xs J Jx hY W ((hW.cell (p := ⟨Bn, 0, none⟩) hBn).trans hc) (hL.below (hW.mono hn₀) (Nat.le_refl _)) h0
end Go.Proofs.Ytaimbkikiokenaa.Rn
