/- The walk of the law SchemaMost. -/
import Derived.Test.YtenlnnhhmgjapaaSchI
import Derived.Test.YtenlnnhhmgjapaaBits
namespace Go.Proofs.Ytenlnnhhmgjapaa.Sch
open Go.RowKit Go.Proofs.Ytenlnnhhmgjapaa
set_option linter.unusedVariables false

/-- A name of one byte. -/
def one (b : Nat) : ByteArray := ⟨#[UInt8.ofNat b]⟩
def flds (m : Nat) : List Fld := (List.range m).map fun k => (one (97 + k), 1)
def tys (n m : Nat) : List Ty := (List.range n).map fun i => (one (65 + i), flds m)
theorem flds_len (m : Nat) : (flds m).length = m := by simp [flds]
theorem tys_len (n m : Nat) : (tys n m).length = n := by simp [tys]
theorem flds_get (m k : Nat) (h : k < (flds m).length) : (flds m)[k] = (one (97 + k), 1) := by simp [flds]
theorem tys_get (n m k : Nat) (h : k < (tys n m).length) : (tys n m)[k] = (one (65 + k), flds m) := by simp [tys]
theorem flds_succ (m : Nat) : flds (m + 1) = flds m ++ [(one (97 + m), 1)] := by simp [flds, List.range_succ]
theorem one_list (b : Nat) : (one b).data.toList = [UInt8.ofNat b] := rfl
theorem up_name : ∀ i, i < 17 → nameB [UInt8.ofNat (65 + i)] = true := by decide
theorem low_name : ∀ k, k < 9 → nameB [UInt8.ofNat (97 + k)] = true := by decide
theorem one_ne {a b : Nat} (ha : a < 256) (hb : b < 256) (h : a ≠ b) : (one a).toList ≠ (one b).toList := by
  rw [toList_data, toList_data, one_list, one_list]
  intro e
  injection e with e
  have := congrArg UInt8.toNat e
  simp at this
  omega
theorem flds_idx (m k : Nat) (hk : k < m) (hm : m ≤ 9) : idx (((flds m).take k).map Prod.fst) (one (97 + k)) < 0 := by
  rw [idx_miss]
  · decide
  · intro j hj
    simp at hj
    have : (((flds m).take k).map Prod.fst)[j] = one (97 + j) := by simp [flds]
    rw [this]
    exact one_ne (by omega) (by omega) (by omega)
theorem tys_idx (n m k : Nat) (hk : k < n) (hn : n ≤ 17) : idx (((tys n m).take k).map Prod.fst) (one (65 + k)) < 0 := by
  rw [idx_miss]
  · decide
  · intro j hj
    simp at hj
    have : (((tys n m).take k).map Prod.fst)[j] = one (65 + j) := by simp [tys]
    rw [this]
    exact one_ne (by omega) (by omega) (by omega)
theorem tys_may (i m : Nat) (hi : i < 17) (hm : m ≤ 8) : MayT (one (65 + i), flds m) := by
  refine ⟨up_name i hi, by simp [flds_len]; omega, fun k hk => ?_⟩
  have hk' : k < m := by simpa [flds_len] using hk
  have e : (flds m)[k]'hk = (one (97 + k), 1) := flds_get m k hk
  refine ⟨?_, ?_, ?_⟩
  · show nameB ((flds m)[k]'hk).1.data.toList = true
    rw [e]; exact low_name k (by omega)
  · show kindB ((flds m)[k]'hk).2 = true
    rw [e]; rfl
  · show idx (((flds m).take k).map Prod.fst) ((flds m)[k]'hk).1 < 0
    rw [e]; exact flds_idx m k hk' (by omega)
/-- What is told of so many types with so many fields. -/
def want (n m : Nat) : Int := if 16 < n then 5 else if 8 < m then 1 else 0
theorem want_of (n m : Nat) (hn : n ≤ 17) (h0 : 0 < n) {c : Int} (h : NewR (tys n m) c) : c = want n m := by
  unfold want
  have hl := tys_len n m
  rcases h with ⟨h1, rfl⟩ | ⟨h1, k, hk, hf, hno, rfl⟩ | ⟨h1, k, hk, hf, hm, hi, rfl⟩ | ⟨h1, hf, rfl⟩
  · rw [if_pos (by omega)]
  · rw [if_neg (by omega)]
    rw [tys_get] at hno
    by_cases h8 : 8 < m
    · rw [if_pos h8]
    · exact absurd (tys_may k m (by omega) (by omega)) hno
  · exfalso
    rw [tys_get] at hi
    have h2 := tys_idx n m k (by omega) hn
    exact absurd (Int.lt_of_le_of_lt hi h2) (by decide)
  · rw [if_neg (by omega)]
    have := (hf 0 (by omega) (by omega)).1
    rw [tys_get] at this
    have h8 := this.2.1
    simp [flds_len] at h8
    rw [if_neg (by omega)]
end Go.Proofs.Ytenlnnhhmgjapaa.Sch
