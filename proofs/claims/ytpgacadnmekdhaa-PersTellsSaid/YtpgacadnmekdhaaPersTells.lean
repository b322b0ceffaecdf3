/- The law PersTells: whatever it is handed, it says true, and nothing that was there turns. -/
import Derived.Test.YtpgacadnmekdhaaPersTellsZ
import Derived.Test.YtpgacadnmekdhaaPersTellsP
namespace Go.Proofs.Ytpgacadnmekdhaa.PersT
open Go.RowKit Go.Proofs.Ytpgacadnmekdhaa Go.Proofs.Ytpgacadnmekdhaa.Pers
set_option linter.unusedVariables false

theorem tells_law (A : Option Addr) (n c : Nat) (f : Nat → Int) (ln : n ≤ c) (lc : c ≤ 9223372036854775807) (lb : ∀ k, -9223372036854775808 ≤ f k ∧ f k ≤ 9223372036854775807) {w : World} (ll : Lies w w.heap.size A n (fun k => .int .i64 (f k)))
    (a : Int) (wa : (Lit.int .i64 a).wf = true) :
    Calls Try.prog 3 #[.slice A n c, .int .i64 a] w fun e w' => e = .returned (.bool true) ∧ Below w.heap.size w w' := by
  obtain ⟨m, hm⟩ : ∃ m : Nat, (n ≤ 20 ∧ m = n) ∨ (20 < n ∧ m = 20) := by
    rcases Nat.lt_or_ge 20 n with h | h
    · exact ⟨20, .inr ⟨h, rfl⟩⟩
    · exact ⟨n, .inl ⟨h, rfl⟩⟩
  rcases Nat.eq_zero_or_pos m with hz | hz
  · exact tells_walkZ A n c f ln lc ll a m hm hz
  · exact tells_walkP A n c f ln lc ll a m hm hz
end Go.Proofs.Ytpgacadnmekdhaa.PersT
