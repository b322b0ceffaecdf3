/- Whether a number is among some. -/
import Derived.Test.YtpgacadnmekdhaaMsE
namespace Go.Proofs.Ytpgacadnmekdhaa.Ms
open Go.RowKit Go.Proofs.Ytpgacadnmekdhaa Go.Proofs.Ytpgacadnmekdhaa.Ev
set_option linter.unusedVariables false
set_option maxRecDepth 100000
section
variable (A : Option Addr) (n c : Nat) (f : Nat → Int) (p : Int) (B : Nat) (w : World)
set_option maxHeartbeats 1000000 in
theorem index_no (hc : n ≤ c) (hc2 : c ≤ 9223372036854775807) (h : Lies w B A n (fun k => .int .i64 (f k))) (hp : ∀ k, k < n → f k ≠ p) :
    Calls Try.prog 154 #[.slice A n c, .int .i64 p] w fun e w' => e = .returned (.int .i64 (-1)) ∧ w = w' := by
  have H := Lib.hid h
  have HP := Lib.hid hp
  clear h hp
  go_enter Try.func154, Try.ntmps154
  go_wp2
  go_loop [8] (fun v => ∃ k : Nat, k ≤ n ∧ v = .int .i64 k) (fun v => n - (intOf v).toNat)
  case atStart => exact ⟨0, by omega, rfl⟩
  case round =>
    obtain ⟨k, hk, rfl⟩ := hrel
    by_cases hlt : k < n
    · have hki : (k : Int) < (n : Int) := by omega
      obtain ⟨g, o, rfl, _, h0⟩ := H.out k hlt
      have hne : (p == f k) = false := by have := HP.out k hlt; simp; omega
      go_wp2
      go_round
      case rel => exact ⟨k + 1, by omega, by go_num⟩
      case measure => simp [intOf]; omega
    · have hki : ¬ (k : Int) < (n : Int) := by omega
      go_wp2
      go_ret
      exact ⟨rfl, rfl⟩
set_option maxHeartbeats 1000000 in
theorem index_yes (hc : n ≤ c) (hc2 : c ≤ 9223372036854775807) (h : Lies w B A n (fun k => .int .i64 (f k))) (i : Nat) (hi : i < n) (hp : f i = p) (hq : ∀ k, k < i → f k ≠ p) :
    Calls Try.prog 154 #[.slice A n c, .int .i64 p] w fun e w' => e = .returned (.int .i64 i) ∧ w = w' := by
  have H := Lib.hid h
  have HP := Lib.hid hp
  have HQ := Lib.hid hq
  clear h hp hq
  go_enter Try.func154, Try.ntmps154
  go_wp2
  go_loop [8] (fun v => ∃ k : Nat, k ≤ i ∧ v = .int .i64 k) (fun v => n - (intOf v).toNat)
  case atStart => exact ⟨0, by omega, rfl⟩
  case round =>
    obtain ⟨k, hk, rfl⟩ := hrel
    have hlt : k < n := by omega
    have hki : (k : Int) < (n : Int) := by omega
    obtain ⟨g, o, rfl, _, h0⟩ := H.out k hlt
    by_cases he : k = i
    · subst he
      have hne : (p == f k) = true := by have := HP.out; simp; omega
      go_wp2
      go_ret
      exact ⟨rfl, rfl⟩
    · have hne : (p == f k) = false := by have := HQ.out k (by omega); simp; omega
      go_wp2
      go_round
      case rel => exact ⟨k + 1, by omega, by go_num⟩
      case measure => simp [intOf]; omega
theorem contains_no (hc : n ≤ c) (hc2 : c ≤ 9223372036854775807) (h : Lies w B A n (fun k => .int .i64 (f k))) (hp : ∀ k, k < n → f k ≠ p) :
    Calls Try.prog 104 #[.slice A n c, .int .i64 p] w fun e w' => e = .returned (.bool false) ∧ w = w' := by
  have H := Lib.hid h
  have HP := Lib.hid hp
  clear h hp
  go_enter Try.func104, Try.ntmps104
  go_wp2_with (go_at_call 154; refine (index_no A n c f p B _ hc hc2 H.out HP.out).mono ?_; rintro e w' ⟨rfl, rfl⟩)
  go_ret
  exact ⟨rfl, rfl⟩
theorem contains_yes (hc : n ≤ c) (hc2 : c ≤ 9223372036854775807) (h : Lies w B A n (fun k => .int .i64 (f k))) (i : Nat) (hi : i < n) (hp : f i = p) (hq : ∀ k, k < i → f k ≠ p) :
    Calls Try.prog 104 #[.slice A n c, .int .i64 p] w fun e w' => e = .returned (.bool true) ∧ w = w' := by
  have H := Lib.hid h
  have HP := Lib.hid hp
  have HQ := Lib.hid hq
  clear h hp hq
  go_enter Try.func104, Try.ntmps104
  go_wp2_with (go_at_call 154; refine (index_yes A n c f p B _ hc hc2 H.out i hi HP.out HQ.out).mono ?_; rintro e w' ⟨rfl, rfl⟩)
  go_ret
  exact ⟨rfl, rfl⟩
end
/-- Does a message go to a part, of so many? -/
def goes (m : Mg) (part : Int) (N : Nat) : Bool := if m.kind = 1 then decide ((Hash.partK m.key.data.toList N : Int) = part) else decide (0 ≤ part ∧ part < (N : Int))
theorem lies_one {w : World} {b : Nat} {p : Int} (h : Row w b 3 #[.int .i64 p]) : Lies w w.heap.size (some ⟨b, 0, none⟩) 1 (fun _ => .int .i64 p) := fun k hk => by
  obtain rfl : k = 0 := by omega
  exact ⟨b, 0, rfl, h.lt, (h.cell 0).trans rfl⟩
theorem lies_seg {w : World} {A : Option Addr} {n c : Nat} {xs : List Value} {f : Nat → Value} {ob : Option Nat} (h : Seg w 3 1 (.slice A n c) n xs ob) (hf : ∀ k, k < n → xs[k]? = some (f k)) : Lies w w.heap.size A n f := fun k hk => by
  obtain ⟨g, o, cap, e, hob, _, _, hc, _⟩ := h.shape (by omega)
  injection e with e1 _ e3
  subst e1
  exact ⟨g, o, rfl, h.lt g hob, hc k _ (hf k hk)⟩
theorem upTo_get (n k : Nat) (h : k < n) : (upTo n)[k]? = some (.int .i64 (k : Int)) := by
  unfold upTo
  rw [List.getElem?_map, List.getElem?_range h]
  rfl
end Go.Proofs.Ytpgacadnmekdhaa.Ms
