/- OmapTexts' law. -/
import Derived.Test.YtnibmfijkbfaeaaOmP
import Derived.Deep.DeepCutAuto
import Derived.Deep.CutBlock
import Derived.BigQuiet
namespace Go.Proofs.Ytnibmfijkbfaeaa.Om
open Go.RowKit Go.Proofs.Ytnibmfijkbfaeaa
set_option linter.unusedVariables false
set_option linter.unusedSimpArgs false
set_option maxRecDepth 100000
open Key (lt)
/-- What the law puts: the first i texts, each with its place. -/
def fillL (f : Nat → ByteArray) : Nat → List (ByteArray × Int)
  | 0 => []
  | i + 1 => put (f i) (i : Int) (fillL f i)
theorem fill_up (f : Nat → ByteArray) : ∀ i, Up (fillL f i)
  | 0 => List.Pairwise.nil
  | i + 1 => put_up (fill_up f i)
theorem ne_lt {a b : ByteArray} : (lt a b ∨ lt b a) ↔ (a.toList == b.toList) = false := by
  constructor
  · intro h
    by_cases e : (a.toList == b.toList) = true
    · exfalso
      have e : a.toList = b.toList := by simpa using e
      rcases h with h | h
      · have h : Op.bytesLess a.toList b.toList = true := h
        rw [e, bl_self] at h; cases h
      · have h : Op.bytesLess b.toList a.toList = true := h
        rw [e, bl_self] at h; cases h
    · simpa using e
  · intro h
    by_cases c : lt a b ∨ lt b a
    · exact c
    · exfalso
      have e : a = b := Key.tri (fun x => c (.inl x)) (fun x => c (.inr x))
      rw [e] at h; simp at h
theorem fill_get (f : Nat → ByteArray) (s : ByteArray) (i : Nat) : get s (fillL f (i + 1)) = if (s.toList == (f i).toList) = true then some (i : Int) else get s (fillL f i) := by
  show get s (put (f i) (i : Int) (fillL f i)) = _
  rw [get_put (fill_up f i)]
  by_cases e : (s.toList == (f i).toList) = true
  · rw [if_pos e, if_neg (fun h => by rw [ne_lt.1 h] at e; cases e)]
  · rw [if_neg e, if_pos (ne_lt.2 (by simpa using e))]
/-- Is a text among the first k? -/
def ahd (f : Nat → ByteArray) (s : ByteArray) : Nat → Bool
  | 0 => false
  | k + 1 => ahd f s k || ((f k).toList == s.toList)
theorem fill_some (f : Nat → ByteArray) (s : ByteArray) : ∀ k, (get s (fillL f k)).isSome = ahd f s k
  | 0 => rfl
  | k + 1 => by
    rw [fill_get]
    unfold ahd
    by_cases e : (s.toList == (f k).toList) = true
    · rw [if_pos e]
      have e2 : ((f k).toList == s.toList) = true := by
        have e : s.toList = (f k).toList := by simpa using e
        rw [e]; simp
      rw [e2]; simp
    · rw [if_neg e, fill_some f s k]
      have e2 : ((f k).toList == s.toList) = false := by
        cases h : ((f k).toList == s.toList) with
        | false => rfl
        | true =>
          have h : (f k).toList = s.toList := by simpa using h
          rw [h] at e; simp at e
      rw [e2]; simp
/-- The last place of the text of place i, of the d places from i on. -/
def lastG (f : Nat → ByteArray) (i : Nat) : Nat → Nat
  | 0 => i
  | d + 1 => if ((f (i + d)).toList == (f i).toList) = true then i + d else lastG f i d
theorem beq_comm (a b : ByteArray) : (a.toList == b.toList) = (b.toList == a.toList) := by
  cases e : (b.toList == a.toList) with
  | true => have e : b.toList = a.toList := by simpa using e
            rw [e]; simp
  | false =>
    cases e2 : (a.toList == b.toList) with
    | false => rfl
    | true => have e2 : a.toList = b.toList := by simpa using e2
              rw [e2] at e; simp at e
theorem fill_lastG (f : Nat → ByteArray) (i : Nat) : ∀ d, get (f i) (fillL f (i + (d + 1))) = some (lastG f i (d + 1) : Int)
  | 0 => by
    show get (f i) (fillL f (i + 1)) = _
    rw [fill_get, if_pos (by simp)]
    unfold lastG
    rw [if_pos (by simp)]
    rfl
  | d + 1 => by
    show get (f i) (fillL f ((i + (d + 1)) + 1)) = _
    rw [fill_get, beq_comm]
    unfold lastG
    by_cases e : ((f (i + (d + 1))).toList == (f i).toList) = true
    · rw [if_pos e, if_pos e]
    · rw [if_neg e, if_neg e]
      exact fill_lastG f i d
theorem fill_last (f : Nat → ByteArray) (i j : Nat) (h : i < j) : get (f i) (fillL f j) = some (lastG f i (j - i) : Int) := by
  obtain ⟨d, rfl⟩ : ∃ d, j = i + (d + 1) := ⟨j - i - 1, by omega⟩
  rw [show i + (d + 1) - i = d + 1 by omega]
  exact fill_lastG f i d
theorem lastG_succ (f : Nat → ByteArray) (i j : Nat) (h : i ≤ j) : lastG f i (j + 1 - i) = if ((f j).toList == (f i).toList) = true then j else lastG f i (j - i) := by
  obtain ⟨d, rfl⟩ : ∃ d, j = i + d := ⟨j - i, by omega⟩
  rw [show i + d + 1 - i = d + 1 by omega, show i + d - i = d by omega]
  rfl
theorem fill_len (f : Nat → ByteArray) (i : Nat) : (fillL f (i + 1)).length = (fillL f i).length + (if ahd f (f i) i = true then 0 else 1) := by
  show (put (f i) (i : Int) (fillL f i)).length = _
  rw [put_len (fill_up f i), fill_some]
theorem fill_le (f : Nat → ByteArray) : ∀ i, (fillL f i).length ≤ i
  | 0 => Nat.le_refl _
  | i + 1 => by
    have h := fill_len f i
    have := fill_le f i
    split at h <;> omega
end Go.Proofs.Ytnibmfijkbfaeaa.Om
