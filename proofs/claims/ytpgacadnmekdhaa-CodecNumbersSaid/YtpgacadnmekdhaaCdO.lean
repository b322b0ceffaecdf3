/- The arguments of the law CodecNumbers, opened. -/
import Derived.Test.YtpgacadnmekdhaaCdI
import Derived.Test.YtpgacadnmekdhaaOpen
import Derived.OpenShut
namespace Go.Proofs.Ytpgacadnmekdhaa.Cd
open Go.RowKit Go.Proofs.Ytpgacadnmekdhaa Go.ChangeShapes Go.WideShapes
set_option linter.unusedVariables false
set_option maxRecDepth 100000
theorem open_u64s {H : Type} {enc : TypeId × Value → H} {P : Program} {w : World} {base : Nat} {t e : TypeId} {v : Value} {d : DataW H} {p : List MemPlace} (ht : P.underlying t = some (.slice e)) (he : P.underlying e = some (.int .u64)) (hc : P.cellsOf e = 1)
    (hv : Value.okWide P w .any base t v) (h : DataW.Trod enc P w 0 (fun _ => true) true t v d p) :
    ∃ (A : Option Addr) (n c : Nat) (f : Nat → Int), v = .slice A n c ∧ n ≤ c ∧ c ≤ 9223372036854775807 ∧ (∀ k, 0 ≤ f k ∧ f k < 18446744073709551616) ∧ Lies w w.heap.size A n (fun k => .int .u64 (f k)) := by
  obtain ⟨a, l, c, rfl⟩ := okWide_slice ht hv
  obtain ⟨fuel, hf⟩ := h
  rcases open_ints ht he hc hf with ⟨hcs, _⟩ | ⟨a', len, cap, zs, hcs, _, hl, hm, hz, _, hcell, hwz⟩
  · simp [Value.cells] at hcs
    obtain ⟨rfl, rfl, rfl⟩ := hcs
    exact ⟨_, _, _, fun _ => 0, rfl, Nat.le_refl _, by omega, fun _ => show (0 : Int) ≤ 0 ∧ (0 : Int) < 18446744073709551616 by omega, fun k hk => by omega⟩
  · simp [Value.cells] at hcs
    obtain ⟨rfl, rfl, rfl⟩ := hcs
    simp only [if_true] at hz
    refine ⟨_, _, _, fun k => zs.getD k 0, rfl, hl, by unfold maxLen at hm; omega, fun k => ?_, lies_of (by omega) hcell⟩
    by_cases hk : k < zs.length
    · have := hwz _ (List.getElem_mem hk)
      show 0 ≤ zs.getD k 0 ∧ zs.getD k 0 < 18446744073709551616
      rw [List.getD_eq_getElem?_getD, List.getElem?_eq_getElem hk, Option.getD_some]
      simp [Lit.wf, IntKind.min, IntKind.max, IntKind.signed, IntKind.bits] at this
      omega
    · show 0 ≤ zs.getD k 0 ∧ zs.getD k 0 < 18446744073709551616
      rw [List.getD_eq_getElem?_getD, List.getElem?_eq_none (by omega), Option.getD_none]
      omega
theorem open_nums {H : Type} {enc : TypeId × Value → H} {w : World} {base : Nat} {v : Value} {d : DataW H} {p : List MemPlace} (hv : Value.okWide Try.prog w .any base 56 v) (h : DataW.Trod enc Try.prog w 0 (fun _ => true) true 56 v d p) :
    ∃ (A : Option Addr) (n c : Nat) (f : Nat → Int), v = .slice A n c ∧ n ≤ c ∧ c ≤ 9223372036854775807 ∧ (∀ k, 0 ≤ f k ∧ f k < 18446744073709551616) ∧ Lies w w.heap.size A n (fun k => .int .u64 (f k)) :=
  open_u64s Try.underlying56 Try.underlying62 (by kernel_rfl) hv h
theorem codec_end {w : World} (A : Option Addr) (n c : Nat) (f : Nat → Int) (hn : n ≤ c) (hc : c ≤ 9223372036854775807) (hf : ∀ k, 0 ≤ f k ∧ f k < 18446744073709551616) (hl : Lies w w.heap.size A n (fun k => .int .u64 (f k))) (s : ByteArray) (hs : s.size ≤ maxLen) :
    Calls Try.prog 7 #[.slice A n c, .string s] w fun e w' => e = .returned (.bool true) ∧ Below w.heap.size w w' :=
  codec_law A n c f hn hc hf w hl s (by unfold maxLen at hs; omega)
end Go.Proofs.Ytpgacadnmekdhaa.Cd
