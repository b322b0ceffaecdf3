/- What a name is, as the statements' own words have it: the same. -/
import Derived.Test.YtookojgemipakaaDoorSchB
namespace Go.Proofs.YtookojgemipakaaDoor.Sch
open Go.RowKit Go.Proofs.YtookojgemipakaaDoor
set_option linter.unusedVariables false

def NameR (l : List UInt8) (w : World) (e : Ending) (w' : World) : Prop := e = .returned (.bool (nameB l)) ∧ Below w.heap.size w w'
theorem nameR_no {l : List UInt8} {w w' : World} (h : nameB l = false) (hb : Below w.heap.size w w') : NameR l w (.returned (.bool false)) w' := ⟨by rw [h], hb⟩
theorem nameR_yes {l : List UInt8} {w w' : World} (h : nameB l = true) (hb : Below w.heap.size w w') : NameR l w (.returned (.bool true)) w' := ⟨by rw [h], hb⟩
/-- The bytes so far are such as a name may have, the first one no digit. -/
def Fst (s : ByteArray) (k : Nat) : Prop := AllN s k ∧ ∀ h : 0 < s.size, 0 < k → isDig s[0].toNat = false
theorem Fst.zero (s : ByteArray) : Fst s 0 := ⟨AllN.zero s, fun _ h => absurd h (by omega)⟩
theorem Fst.succ {s : ByteArray} {k : Nat} (h : Fst s k) (hk : k < s.size) (g : (isLet s[k].toNat || isDig s[k].toNat) = true) (g0 : k = 0 → isDig s[k].toNat = false) : Fst s (k + 1) := by
  refine ⟨h.1.succ hk g, fun h0 _ => ?_⟩
  rcases Nat.eq_zero_or_pos k with rfl | hp
  · exact g0 rfl
  · exact h.2 h0 hp
theorem isLet_t {c : Int} (h : (97 ≤ c ∧ c ≤ 122) ∨ (65 ≤ c ∧ c ≤ 90) ∨ c = 95) : isLet c = true := by unfold isLet; exact decide_eq_true h
theorem isLet_f {c : Int} (h : ¬ ((97 ≤ c ∧ c ≤ 122) ∨ (65 ≤ c ∧ c ≤ 90) ∨ c = 95)) : isLet c = false := by unfold isLet; exact decide_eq_false h
theorem isDig_t {c : Int} (h : 48 ≤ c ∧ c ≤ 57) : isDig c = true := by unfold isDig; exact decide_eq_true h
theorem isDig_f {c : Int} (h : ¬ (48 ≤ c ∧ c ≤ 57)) : isDig c = false := by unfold isDig; exact decide_eq_false h
def NoW (s : ByteArray) (k : Nat) : Prop := ∀ j, j < k → s.toList ≠ words.getD j []
theorem NoW.succ {s : ByteArray} {k : Nat} (h : NoW s k) (g : s.toList ≠ words.getD k []) : NoW s (k + 1) := fun j hj => by
  by_cases e : j = k
  · subst e; exact g
  · exact h j (by omega)
theorem NoW.none {s : ByteArray} (h : NoW s 9) : wordB s.data.toList = false := by
  unfold wordB
  refine decide_eq_false fun hm => ?_
  obtain ⟨j, hj, e⟩ := List.getElem_of_mem hm
  have h9 : j < 9 := hj
  refine h j h9 ?_
  rw [toList_data, List.getD_eq_getElem?_getD, List.getElem?_eq_getElem hj, e]; rfl
theorem word_of {s : ByteArray} {k : Nat} (hk : k < 9) (h : s.toList = words.getD k []) : wordB s.data.toList = true := by
  unfold wordB
  refine decide_eq_true ?_
  rw [← toList_data, h, List.getD_eq_getElem?_getD, List.getElem?_eq_getElem (show k < words.length from hk)]
  exact List.getElem_mem _
theorem beq_yes {a b : List UInt8} (h : a = b) : (a == b) = true := by simpa using h
end Go.Proofs.YtookojgemipakaaDoor.Sch
