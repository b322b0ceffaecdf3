/- Chains, thing by thing: the iterator's contract. -/
import Derived.Test.YtpgacadnmekdhaaPersA
import Derived.RangeFuncNested
import Derived.RangeFuncBound
import Derived.RangeFuncCalls
import Derived.RangeFuncLeaves
import Derived.RangeFuncFrom
import Derived.Shelf.Abstract
import Derived.OwnWalkIn
import Derived.TacticsInMore
import Derived.LoopNIn
import Derived.LoopIn
import Derived.Deep.OwnRows
namespace Go.Proofs.Ytpgacadnmekdhaa.Pers
open Go.RowKit Go.Proofs.Ytpgacadnmekdhaa
set_option linter.unusedVariables false
attribute [local go_sem] Oper.semAt_some

theorem len_in (F : Fence) (n : Nat) (hF : F.fn 22) (hro : F.round = none) (p : Option Addr) (xs : List Int) (B : Nat) (w : World) (h : Ch w B p xs) :
    CallsIn F n Try.prog 22 #[.pointer p] w fun e w' => e = .returned (.int .i64 xs.length) ∧ w = w' := by
  refine callsIn_of_wp Try.func22 rfl hF ?_ hro
  simp only [Try.ntmps22, List.size_toArray, List.length_cons, List.length_nil, Nat.reduceAdd, Nat.reduceSub, Array.replicate_succ, Array.replicate_zero, List.push_toArray, List.append_toArray, List.nil_append, List.cons_append]
  cases xs with
  | nil =>
    obtain rfl : p = none := h
    gi_wp2
    go_ret
    exact ⟨rfl, rfl⟩
  | cons x r =>
    obtain ⟨b, q, rfl, hb, h0, h1, h2, hr⟩ := h
    clear hr h0 h1
    gi_wp2
    go_ret
    exact ⟨ret_int (by simp), rfl⟩
theorem back_in (F : Fence) (n : Nat) (hF : F.fn 17) (hro : F.round = none) (p : Option Addr) (w : World) :
    CallsIn F n Try.prog 17 #[.pointer p] w fun e w' => e = .returned (.func (.func 91) #[] #[.pointer (some ⟨w.heap.size, 0, none⟩)]) ∧ w' = w.alloc (.cells #[.pointer p] 24) := by
  refine callsIn_of_wp Try.func17 rfl hF ?_ hro
  simp only [Try.ntmps17, List.size_toArray, List.length_cons, List.length_nil, Nat.reduceAdd, Nat.reduceSub, Array.replicate_succ, Array.replicate_zero, List.push_toArray, List.append_toArray, List.nil_append, List.cons_append]
  gi_wp2
  go_ret
  exact ⟨rfl, rfl⟩
/-- How many things a chain has, read off its top. -/
def leftC (w : World) : Value → Nat
  | .pointer (some a) => match w.cell? ⟨a.block, 2, none⟩ with
    | some v => (intOf v).toNat
    | none => 0
  | _ => 0
theorem leftC_eq {w : World} {B : Nat} {p : Option Addr} {xs : List Int} (h : Ch w B p xs) : leftC w (.pointer p) = xs.length := by
  cases xs with
  | nil =>
    obtain rfl : p = none := h
    rfl
  | cons x r =>
    obtain ⟨b, q, rfl, hb, h0, h1, h2, hr⟩ := h
    simp only [leftC, h2, intOf, List.length_cons]
    omega
set_option maxRecDepth 100000 in
set_option maxHeartbeats 1000000 in
theorem back1_in (F : Fence) (n : Nat) (h1 : F.fn 91) (h2 : F.fn 22) (hro : F.round = none) (hn : 1 ≤ n) (l Bn n₀ : Nat) (p0 : Option Addr) (xs : List Int) (J Jx : List Int → World → Prop)
    (hY : ∀ pre x W, J pre W → pre.length < xs.length → YieldAt F (n - 1) Try.prog l #[.int .i64 x] W fun e W' =>
      (e = .returned (.bool true) ∧ J (pre ++ [x]) W' ∧ Below n₀ W W') ∨ (e = .returned (.bool false) ∧ Jx (pre ++ [x]) W'))
    (W : World) (hBn : W.cell? ⟨Bn, 0, none⟩ = some (.pointer p0)) (hL : Ch W n₀ p0 xs) (h0 : J [] W) :
    CallsIn F n Try.prog 91 #[.func (.yield l) #[] #[], .pointer (some ⟨Bn, 0, none⟩)] W fun e W' => (∃ v, e = .returned v) ∧
      ((∃ ys, ys = xs ∧ J ys W') ∨ (∃ pre, pre <+: xs ∧ Jx pre W')) := by
  refine callsIn_of_wp Try.func91 rfl h1 ?_ hro
  simp only [Try.ntmps91, List.size_toArray, List.length_cons, List.length_nil, Nat.reduceAdd, Nat.reduceSub, Array.replicate_succ, Array.replicate_zero, List.push_toArray, List.append_toArray, List.nil_append, List.cons_append]
  gi_wp2
  gi_loopw [3] (fun p wr => ∃ (pre rest : List Int) (q : Option Addr), p = .pointer q ∧ Hid (xs = pre ++ rest) ∧ Hid (Ch wr n₀ q rest) ∧ J pre wr)
    (fun p wr => leftC wr p)
  case atStart => exact ⟨[], xs, p0, rfl, rfl, hL, h0⟩
  case round =>
    obtain ⟨pre, rest, q, rfl, hx, hl, hJs⟩ := hrel
    cases rest with
    | nil =>
      obtain rfl : q = none := hl.out
      gi_wp2_with (gi_at_call 22; refine (len_in F _ h2 hro none [] n₀ _ rfl).mono ?_; rintro e w' ⟨rfl, rfl⟩)
      go_end0
      exact ⟨⟨_, rfl⟩, .inl ⟨pre, by have := hx.out; simp [this], hJs⟩⟩
    | cons x rest =>
      obtain ⟨b, q', rfl, hb, hv, hq, hc, hr⟩ := hl.out
      have HR := Lib.hid hr
      obtain ⟨fn, tmps, assign, body, hy, hR⟩ := hY pre x wr hJs (by rw [hx.out]; simp)
      have hpos : 0 < (x :: rest).length := by simp
      have hpos' : (0 : Int) < (rest.length : Int) + 1 := by omega
      clear hr hc
      gi_wp2_with (gi_at_call 22; refine (len_in F _ h2 hro _ (x :: rest) n₀ _ hl.out).mono ?_; rintro e w' ⟨rfl, rfl⟩)
      refine hR.mono ?_
      rintro e W3 (⟨rfl, hJ3, hk3⟩ | ⟨rfl, hJx3⟩)
      · have hq3 : W3.cell? ⟨b, 1, none⟩ = some (.pointer q') := (hk3.cell (p := ⟨b, 1, none⟩) hb).trans hq
        gi_wp2
        go_roundw
        case rel => exact ⟨pre ++ [x], rest, q', rfl, by have := hx.out; unfold Hid; simp [this], HR.out.below hk3 (Nat.le_refl _), hJ3⟩
        case measure => rw [leftC_eq (HR.out.below hk3 (Nat.le_refl _)), leftC_eq hl.out]; simp
      · gi_wp2
        refine bodyPost_ret (results_none rfl _ _ _) rfl ?_
        exact ⟨⟨_, rfl⟩, .inr ⟨pre ++ [x], ⟨rest, by have := hx.out; simp [this]⟩, hJx3⟩⟩
theorem back_stops (F : Fence) (n : Nat) (h1 : F.fn 91) (h2 : F.fn 22) (hro : F.round = none) (hn : 1 ≤ n) (Bn n₀ : Nat) (p0 : Option Addr) (xs : List Int) (w : World) (hBn : Bn < w.heap.size) (hn₀ : n₀ ≤ w.heap.size)
    (hc : w.cell? ⟨Bn, 0, none⟩ = some (.pointer p0)) (hL : Ch w n₀ p0 xs) :
    SeqStopsK F n Try.prog 91 #[.pointer (some ⟨Bn, 0, none⟩)] (fun x : Int => #[Value.int .i64 x]) (Below n₀) (fun ys => ys = xs) (fun pre => pre <+: xs) xs.length w := fun l J Jx W hW _ _ hY h0 =>
  back1_in F n h1 h2 hro hn l Bn n₀ p0 xs J Jx hY W ((hW.cell (p := ⟨Bn, 0, none⟩) hBn).trans hc) (hL.below (hW.mono hn₀) (Nat.le_refl _)) h0
end Go.Proofs.Ytpgacadnmekdhaa.Pers
