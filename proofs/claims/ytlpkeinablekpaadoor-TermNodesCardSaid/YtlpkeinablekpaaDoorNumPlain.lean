/- Plain facts on decimal digits: lists of bytes and natural numbers; no program in sight. -/

namespace Go.Proofs.YtlpkeinablekpaaDoor.Num
open List

def digit (n : Nat) : UInt8 := UInt8.ofNat (48 + n)
theorem digit_toNat {n : Nat} (h : n < 10) : (digit n).toNat = 48 + n := by unfold digit; simp; omega
/-- A number's digits. -/
def dg (n : Nat) : List UInt8 := if n < 10 then [digit n] else dg (n / 10) ++ [digit (n % 10)]
theorem dg_lt {n : Nat} (h : n < 10) : dg n = [digit n] := by rw [dg, if_pos h]
theorem dg_ge {n : Nat} (h : 10 ≤ n) : dg n = dg (n / 10) ++ [digit (n % 10)] := by rw [dg, if_neg (by omega)]
/-- A number's text. -/
def txt (n : Int) : List UInt8 := if n < 0 then 45 :: dg n.natAbs else dg n.natAbs
def isD (c : UInt8) : Bool := decide (48 ≤ c.toNat ∧ c.toNat ≤ 57)
theorem isD_digit {n : Nat} (h : n < 10) : isD (digit n) = true := by unfold isD; rw [digit_toNat h]; simp; omega
def step (a : Nat) (c : UInt8) : Nat := a * 10 + (c.toNat - 48)
def val (l : List UInt8) : Nat := l.foldl step 0
theorem val_snoc (l : List UInt8) (c : UInt8) : val (l ++ [c]) = val l * 10 + (c.toNat - 48) := by unfold val; rw [List.foldl_append]; rfl
theorem dg_ne (n : Nat) : dg n ≠ [] := by rw [dg]; split <;> simp
theorem dg_all (n : Nat) : (dg n).all isD = true := by
  induction n using Nat.strongRecOn with
  | ind n ih =>
    rw [dg]
    split
    · simp [isD_digit, *]
    · rw [List.all_append, ih _ (by omega)]; simp [isD_digit (Nat.mod_lt n (by omega : 10 > 0))]
theorem val_dg (n : Nat) : val (dg n) = n := by
  induction n using Nat.strongRecOn with
  | ind n ih =>
    rw [dg]
    split
    · simp [val, step, digit_toNat, *]
    · rw [val_snoc, ih _ (by omega), digit_toNat (Nat.mod_lt n (by omega))]; omega
/-- No needless nought ahead. -/
theorem dg_head (n : Nat) (h : 10 ≤ n) : ∃ c r, dg n = c :: r ∧ r ≠ [] ∧ 49 ≤ c.toNat := by
  induction n using Nat.strongRecOn with
  | ind n ih =>
    rw [dg_ge h]
    by_cases h2 : 10 ≤ n / 10
    · obtain ⟨c, r, e, hr, hc⟩ := ih (n / 10) (by omega) h2
      exact ⟨c, r ++ [digit (n % 10)], by rw [e]; rfl, by simp, hc⟩
    · rw [dg_lt (by omega)]
      exact ⟨digit (n / 10), [digit (n % 10)], rfl, by simp, by rw [digit_toNat (by omega)]; omega⟩
/-- A text of digits without a needless nought is its number's. -/
theorem dg_val (l : List UInt8) (h0 : l ≠ []) (hd : l.all isD = true) (hz : l.length ≤ 1 ∨ l.head? ≠ some 48) : dg (val l) = l := by
  induction hn : l.length using Nat.strongRecOn generalizing l with
  | ind n ih =>
    obtain ⟨r, c, rfl⟩ : ∃ r c, l = r ++ [c] := ⟨l.dropLast, l.getLast h0, (List.dropLast_concat_getLast h0).symm⟩
    rw [List.all_append, Bool.and_eq_true] at hd
    obtain ⟨hd1, hd2⟩ := hd
    have hc : 48 ≤ c.toNat ∧ c.toNat ≤ 57 := by simpa [isD] using hd2
    have hdc : digit (c.toNat - 48) = c := by
      unfold digit
      apply UInt8.toNat_inj.1
      simp
      omega
    rw [val_snoc]
    by_cases hr : r = []
    · subst hr
      have : val ([] : List UInt8) = 0 := rfl
      rw [this, dg_lt (by omega), show 0 * 10 + (c.toNat - 48) = c.toNat - 48 from by omega, hdc]
      rfl
    · have hz' : r.head? ≠ some 48 := by
        rcases hz with hz | hz
        · simp at hz; exact absurd hz hr
        · cases r with
          | nil => exact absurd rfl hr
          | cons a t => simpa using hz
      have ih' := ih r.length (by rw [← hn]; simp) r hr hd1 (.inr hz') rfl
      have hv : 1 ≤ val r := by
        apply Nat.pos_of_ne_zero
        intro he
        rw [he, dg_lt (by omega)] at ih'
        rw [← ih'] at hz'
        exact hz' rfl
      rw [dg_ge (by omega), show (val r * 10 + (c.toNat - 48)) / 10 = val r from by omega, ih', show (val r * 10 + (c.toNat - 48)) % 10 = c.toNat - 48 from by omega, hdc]
theorem length_dg (k : Nat) : ∀ n, n < 10 ^ (k + 1) → (dg n).length ≤ k + 1 := by
  induction k with
  | zero => intro n hn; rw [dg_lt (by simpa using hn)]; simp
  | succ k ih =>
    intro n hn
    rw [dg]
    split
    · simp
    · have := ih (n / 10) (by rw [Nat.div_lt_iff_lt_mul (by omega)]; rw [Nat.pow_succ] at hn; omega)
      simp; omega
theorem val_lt (l : List UInt8) (hd : l.all isD = true) : val l < 10 ^ l.length := by
  induction hn : l.length generalizing l with
  | zero => have := List.eq_nil_of_length_eq_zero hn; subst this; decide
  | succ n ih =>
    have h0 : l ≠ [] := by intro e; subst e; simp at hn
    obtain ⟨r, c, rfl⟩ : ∃ r c, l = r ++ [c] := ⟨l.dropLast, l.getLast h0, (List.dropLast_concat_getLast h0).symm⟩
    rw [List.all_append, Bool.and_eq_true] at hd
    have hc : 48 ≤ c.toNat ∧ c.toNat ≤ 57 := by simpa [isD] using hd.2
    have := ih r hd.1 (by simpa using hn)
    rw [val_snoc, Nat.pow_succ]
    omega
/-- The digits of n's 20 lowest places, from the last one on: what a loop that divides has laid behind k rounds. -/
def low (n : Nat) : Nat → List UInt8
  | 0 => []
  | k + 1 => low (n / 10) k ++ [digit (n % 10)]
theorem low_dg (n : Nat) : low n (dg n).length = dg n := by
  induction n using Nat.strongRecOn with
  | ind n ih =>
    by_cases h : n < 10
    · rw [dg_lt h]; simp [low, Nat.mod_eq_of_lt h]
    · rw [dg_ge (by omega)]; simp [low, ih (n / 10) (by omega)]
theorem low_front (n k : Nat) : low n (k + 1) = digit (n / 10 ^ k % 10) :: low n k := by
  induction k generalizing n with
  | zero => simp [low]
  | succ k ih =>
    rw [low, ih (n / 10), Nat.div_div_eq_div_mul, low, Nat.pow_succ, Nat.mul_comm (10 ^ k) 10]
    rfl
theorem dg_first (m : Nat) : (dg m).head? ≠ some 45 := by
  intro h
  have h1 := dg_all m
  cases hd : dg m with
  | nil => rw [hd] at h; simp at h
  | cons c r =>
    rw [hd] at h h1
    simp at h
    subst h
    simp [isD] at h1
theorem isPrefix_45 (l : List UInt8) : ([45] : List UInt8).isPrefixOf l = decide (l.head? = some 45) := by
  cases l with
  | nil => rfl
  | cons c r =>
    by_cases h : c = 45
    · subst h; simp [List.isPrefixOf]
    · have h2 : (45 : UInt8) ≠ c := fun e => h e.symm
      simp [List.isPrefixOf, h, h2]
theorem length_low (n k : Nat) : (low n k).length = k := by
  induction k generalizing n with
  | zero => rfl
  | succ k ih => simp [low, ih]
end Go.Proofs.YtlpkeinablekpaaDoor.Num
