/- The sum of a text's bytes, by the code's word and by the law's. -/
import Derived.Test.YtpgacadnmekdhaaTab
import Derived.Laws.Bits64
namespace Go.Proofs.Ytpgacadnmekdhaa.Hash
open Go.RowKit Go.Proofs.Ytpgacadnmekdhaa
set_option linter.unusedVariables false

def stepH (h : Int) (c : Nat) : Int := IntKind.u64.wrap (bits .xor .u64 h c * 1099511628211)
def baseH : Int := 14695981039346656037
def fnv (l : List UInt8) : Int := l.foldl (fun h c => stepH h c.toNat) baseH
theorem fnv_snoc (l : List UInt8) (c : UInt8) : fnv (l ++ [c]) = stepH (fnv l) c.toNat := by unfold fnv; rw [List.foldl_append]; rfl
theorem fnv_nil : fnv [] = baseH := rfl
theorem stepH_range (h : Int) (c : Nat) : 0 ≤ stepH h c ∧ stepH h c ≤ 18446744073709551615 := by unfold stepH; rw [IntKind.wrap_u64]; omega
theorem foldH_range : ∀ (l : List UInt8) (h : Int), 0 ≤ h ∧ h ≤ 18446744073709551615 → 0 ≤ l.foldl (fun h c => stepH h c.toNat) h ∧ l.foldl (fun h c => stepH h c.toNat) h ≤ 18446744073709551615
  | [], _, h => h
  | c :: l, h, _ => foldH_range l (stepH h c.toNat) (stepH_range h _)
theorem fnv_range (l : List UInt8) : 0 ≤ fnv l ∧ fnv l ≤ 18446744073709551615 := foldH_range l baseH (by unfold baseH; omega)
theorem byte_u64 (c : UInt8) : IntKind.u64.wrap (c.toNat : Int) = c.toNat := IntWalk.u64_in _ ⟨by omega, by have := UInt8.toNat_lt c; omega⟩
theorem ret_u64' {a b : Int} (h : a = b) : Value.int .u64 a = .int .u64 b := by rw [h]

set_option maxHeartbeats 400000 in
theorem fnv_any (s : ByteArray) (w : World) (hs : s.size ≤ 9223372036854775807) :
    Calls Try.prog 102 #[.string s] w fun e w' => e = .returned (.int .u64 (fnv s.data.toList)) ∧ w = w' := by
  go_enter Try.func102, Try.ntmps102
  go_wp2
  go_loop [3, 7] (fun h i => ∃ k : Nat, k ≤ s.size ∧ i = .int .i64 k ∧ h = .int .u64 (fnv (s.data.toList.take k))) (fun _ i => s.size - (intOf i).toNat)
  case atStart => exact ⟨0, by omega, rfl, rfl⟩
  case round =>
    obtain ⟨k, hk, rfl, rfl⟩ := hrel
    by_cases hlt : k < s.size
    · have hts := take_snoc s k hlt
      have HS : Hid (fnv (s.data.toList.take (k + 1)) = stepH (fnv (s.data.toList.take k)) s[k].toNat) := by rw [hts]; exact fnv_snoc _ _
      clear hts
      go_wp2
      go_round
      case rel => exact ⟨k + 1, by omega, by go_num, ret_u64' (by rw [HS.out, byte_u64]; rfl)⟩
      case measure => simp [intOf]; omega
    · go_wp2
      go_ret
      exact ⟨ret_int' .u64 (by rw [List.take_of_length_le (by simp; omega)]), rfl⟩
def partsV (n : Int) : Nat := (min (max n 1) 64).toNat
theorem partsV_pos (n : Int) : 1 ≤ partsV n ∧ partsV n ≤ 64 := by unfold partsV; omega
theorem within_any (n : Int) (w : World) : Calls Try.prog 103 #[.int .i64 n] w fun e w' => e = .returned (.int .i64 (partsV n)) ∧ w = w' := by
  rcases (show (n < 1 ∧ (partsV n : Int) = 1) ∨ (1 ≤ n ∧ n ≤ 64 ∧ (partsV n : Int) = n) ∨ (64 < n ∧ (partsV n : Int) = 64) from by unfold partsV; omega) with ⟨g, hv⟩ | ⟨g, g1, hv⟩ | ⟨g, hv⟩
  all_goals
    rw [hv]
    clear hv
    go_enter Try.func103, Try.ntmps103
    go_wp2
    go_ret
    exact ⟨rfl, rfl⟩
def partK (l : List UInt8) (N : Nat) : Nat := (fnv l % (N : Int)).toNat
theorem partK_lt (l : List UInt8) (N : Nat) (h : 1 ≤ N) : partK l N < N := by
  unfold partK
  have h1 := Int.emod_lt_of_pos (fnv l) (show (0 : Int) < N from by omega)
  omega
theorem partK_int (l : List UInt8) (N : Nat) (h : 1 ≤ N) : fnv l % (N : Int) = (partK l N : Nat) := by
  unfold partK
  have h1 := Int.emod_nonneg (fnv l) (show (N : Int) ≠ 0 from by omega)
  omega
theorem part_any (s : ByteArray) (n : Int) (w : World) (hs : s.size ≤ 9223372036854775807) :
    Calls Try.prog 53 #[.string s, .int .i64 n] w fun e w' => e = .returned (.int .i64 (partK s.data.toList (partsV n))) ∧ w = w' := by
  obtain ⟨r0, r1⟩ := fnv_range s.data.toList
  obtain ⟨p0, p1⟩ := partsV_pos n
  have hk := Lib.hid (partK_int s.data.toList _ p0)
  have hk1 := partK_lt s.data.toList _ p0
  go_enter Try.func53, Try.ntmps53
  go_wp2_with (first
    | (go_at_call 102; refine (fnv_any s _ hs).mono ?_; rintro e w' ⟨rfl, rfl⟩)
    | (go_at_call 103; refine (within_any n _).mono ?_; rintro e w' ⟨rfl, rfl⟩))
  go_ret
  exact ⟨ret_int' .i64 (by rw [hk.out, IntWalk.wrap64_in _ ⟨by omega, by omega⟩]), rfl⟩
end Go.Proofs.Ytpgacadnmekdhaa.Hash
