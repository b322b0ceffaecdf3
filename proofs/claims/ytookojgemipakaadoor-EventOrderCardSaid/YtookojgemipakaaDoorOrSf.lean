/- Bytes of names, words, kinds. -/
import Derived.Test.YtookojgemipakaaDoorKit
import Derived.Test.YtookojgemipakaaDoorMem
import Derived.Test.YtookojgemipakaaDoorSeg
import Derived.Test.YtookojgemipakaaDoorApp
import Derived.Deep.RegionWith
import Derived.Lib.SliceRun
import Derived.StillTailTactics
import Derived.Deep.RegionLaw
import Derived.Test.YtookojgemipakaaDoorOpen4
import Derived.Test.YtookojgemipakaaDoorBits
import Derived.Deep.Cut
import Derived.Deep.DeepCutAuto
import Derived.Deep.CutBlock
import Derived.Deep.QuietTactic
namespace Go.Proofs.YtookojgemipakaaDoor.Sch
open Go.RowKit Go.Proofs.YtookojgemipakaaDoor
set_option linter.unusedVariables false

theorem ne_false {a b : Int} (h : a ≠ b) : (a == b) = false := by simpa using h
def isLet (c : Int) : Bool := decide ((97 ≤ c ∧ c ≤ 122) ∨ (65 ≤ c ∧ c ≤ 90) ∨ c = 95)
def isDig (c : Int) : Bool := decide (48 ≤ c ∧ c ≤ 57)
theorem letter_any (c : Int) (w : World) (h0 : 0 ≤ c) (h1 : c ≤ 255) :
    Calls Tryd.prog 74 #[.int .u8 c] w fun e w' => e = .returned (.bool (isLet c)) ∧ w = w' := by
  rcases (show (c < 65 ∧ c < 97 ∧ c ≠ 95 ∧ isLet c = false) ∨ (65 ≤ c ∧ c ≤ 90 ∧ c < 97 ∧ isLet c = true) ∨ (90 < c ∧ 65 ≤ c ∧ c < 97 ∧ c ≠ 95 ∧ isLet c = false) ∨ (c = 95 ∧ isLet c = true) ∨ (97 ≤ c ∧ c ≤ 122 ∧ isLet c = true) ∨ (122 < c ∧ 97 ≤ c ∧ 65 ≤ c ∧ 90 < c ∧ c ≠ 95 ∧ isLet c = false) from by
    unfold isLet; simp only [decide_eq_true_eq, decide_eq_false_iff_not]; omega) with ⟨a, b, d, e⟩ | ⟨a, b, d, e⟩ | ⟨a, b, d, d', e⟩ | ⟨rfl, e⟩ | ⟨a, b, e⟩ | ⟨a, b, d, d', d'', e⟩
  all_goals
    rw [e]
    clear e
    try have e95 := ne_false (show c ≠ 95 by omega)
    go_enter Tryd.func74, Tryd.ntmps74
    go_wp2
    go_ret
    first | exact ⟨rfl, rfl⟩ | exact ⟨by simp; omega, rfl⟩
theorem digit_any (c : Int) (w : World) (h0 : 0 ≤ c) (h1 : c ≤ 255) :
    Calls Tryd.prog 72 #[.int .u8 c] w fun e w' => e = .returned (.bool (isDig c)) ∧ w = w' := by
  rcases (show (c < 48 ∧ isDig c = false) ∨ (48 ≤ c ∧ c ≤ 57 ∧ isDig c = true) ∨ (57 < c ∧ 48 ≤ c ∧ isDig c = false) from by
    unfold isDig; simp only [decide_eq_true_eq, decide_eq_false_iff_not]; omega) with ⟨a, e⟩ | ⟨a, b, e⟩ | ⟨a, b, e⟩
  all_goals
    rw [e]
    clear e
    go_enter Tryd.func72, Tryd.ntmps72
    go_wp2
    go_ret
    first | exact ⟨rfl, rfl⟩ | exact ⟨by simp; omega, rfl⟩
def kindB (k : Int) : Bool := decide (1 ≤ k ∧ k ≤ 3)
theorem kind_any (k : Int) (w : World) :
    Calls Tryd.prog 54 #[.int .i64 k] w fun e w' => e = .returned (.bool (kindB k)) ∧ w = w' := by
  rcases (show k = 1 ∨ k = 2 ∨ k = 3 ∨ ((k ≠ 1 ∧ k ≠ 2 ∧ k ≠ 3) ∧ kindB k = false) from by
    unfold kindB; simp only [decide_eq_false_iff_not]; omega) with rfl | rfl | rfl | ⟨⟨a, b, d⟩, e⟩
  · go_enter Tryd.func54, Tryd.ntmps54
    go_wp2
    go_ret
    exact ⟨rfl, rfl⟩
  · go_enter Tryd.func54, Tryd.ntmps54
    go_wp2
    go_ret
    exact ⟨rfl, rfl⟩
  · go_enter Tryd.func54, Tryd.ntmps54
    go_wp2
    go_ret
    exact ⟨rfl, rfl⟩
  · rw [e]
    clear e
    have e1 := ne_false a
    have e2 := ne_false b
    have e3 := ne_false d
    go_enter Tryd.func54, Tryd.ntmps54
    go_wp2
    go_ret
    exact ⟨rfl, rfl⟩
/-- The language's words. -/
def words : List (List UInt8) := [[83, 69, 81], [87, 72, 69, 82, 69], [87, 73, 84, 72, 73, 78], [67, 65, 80], [97, 110, 100], [111, 114], [110, 111, 116], [116, 114, 117, 101], [102, 97, 108, 115, 101]]
def wordB (l : List UInt8) : Bool := decide (l ∈ words)
theorem of_toList {s : ByteArray} {l : List UInt8} (h : s.toList = l) : s = ⟨l.toArray⟩ := by
  rw [ByteArray.toList_eq] at h
  subst h
  cases s
  simp
theorem beq_no {a b : List UInt8} (h : ¬ a = b) : (a == b) = false := by simpa using h
theorem word_any (s : ByteArray) (w : World) :
    Calls Tryd.prog 73 #[.string s] w fun e w' => e = .returned (.bool (wordB s.toList)) ∧ w = w' := by
  by_cases h : s.toList ∈ words
  · rw [show wordB s.toList = true from by unfold wordB; exact decide_eq_true h]
    simp only [words, List.mem_cons, List.not_mem_nil, or_false] at h
    rcases h with h | h | h | h | h | h | h | h | h
    all_goals
      have h' := of_toList h
      clear h
      subst h'
      go_enter Tryd.func73, Tryd.ntmps73
      go_wp2
      go_ret
      exact ⟨rfl, rfl⟩
  · rw [show wordB s.toList = false from by unfold wordB; exact decide_eq_false h]
    simp only [words, List.mem_cons, List.not_mem_nil, or_false, not_or] at h
    obtain ⟨h1, h2, h3, h4, h5, h6, h7, h8, h9⟩ := h
    have e1 := beq_no h1
    have e2 := beq_no h2
    have e3 := beq_no h3
    have e4 := beq_no h4
    have e5 := beq_no h5
    have e6 := beq_no h6
    have e7 := beq_no h7
    have e8 := beq_no h8
    have e9 := beq_no h9
    clear h1 h2 h3 h4 h5 h6 h7 h8 h9
    go_enter Tryd.func73, Tryd.ntmps73
    go_wp2
    go_ret
    exact ⟨rfl, rfl⟩
end Go.Proofs.YtookojgemipakaaDoor.Sch

/- What a name is: the code's word on it, and the document's. -/
namespace Go.Proofs.YtookojgemipakaaDoor.Sch
open Go.RowKit Go.Proofs.YtookojgemipakaaDoor
set_option linter.unusedVariables false

def okc (c : UInt8) : Bool := isLet c.toNat || isDig c.toNat
def nameB (l : List UInt8) : Bool := decide (l ≠ []) && decide (l.length ≤ 16) && !(isDig ((l.headD 0).toNat)) && !(wordB l) && l.all okc
def NameP (l : List UInt8) (w : World) (e : Ending) (w' : World) : Prop := e = .returned (.bool (nameB l)) ∧ w = w'
theorem name_no {l : List UInt8} {w : World} (h : nameB l = false) : NameP l w (.returned (.bool false)) w := ⟨by rw [h], rfl⟩
theorem name_yes' {l : List UInt8} {w : World} (h : nameB l = true) : NameP l w (.returned (.bool true)) w := ⟨by rw [h], rfl⟩
theorem nameB_nil : nameB [] = false := rfl
theorem nameB_long {l : List UInt8} (h : 16 < l.length) : nameB l = false := by
  unfold nameB; rw [show decide (l.length ≤ 16) = false from decide_eq_false (by omega)]; simp
theorem nameB_dig {l : List UInt8} (g : isDig ((l.headD 0).toNat) = true) : nameB l = false := by unfold nameB; rw [g]; simp
theorem nameB_word {l : List UInt8} (g : wordB l = true) : nameB l = false := by unfold nameB; rw [g]; simp
theorem nameB_bad {l : List UInt8} {k : Nat} (h : k < l.length) (g : okc l[k] = false) : nameB l = false := by
  unfold nameB
  have : l.all okc = false := by
    rw [List.all_eq_false]
    exact ⟨l[k], List.getElem_mem h, by simp [g]⟩
  simp [this]
def AllN (s : ByteArray) (k : Nat) : Prop := ∀ j (hj : j < s.data.toList.length), j < k → okc s.data.toList[j] = true
theorem AllN.zero (s : ByteArray) : AllN s 0 := fun _ _ h => absurd h (by omega)
theorem AllN.succ {s : ByteArray} {k : Nat} (h : AllN s k) (hk : k < s.size) (g : (isLet s[k].toNat || isDig s[k].toNat) = true) : AllN s (k + 1) := by
  intro j hj h1
  by_cases e : j = k
  · subst e; rw [sd s j hk]; exact g
  · exact h j hj (by omega)
theorem nameB_yes {s : ByteArray} (h0 : 0 < s.size) (h1 : s.size ≤ 16) (h2 : isDig s[0].toNat = false) (h3 : wordB s.data.toList = false) (h4 : AllN s s.size) : nameB s.data.toList = true := by
  have hl : s.data.toList.length = s.size := by simp
  unfold nameB
  have ha : s.data.toList.all okc = true := by
    rw [List.all_eq_true]
    intro x hx
    obtain ⟨i, hi, rfl⟩ := List.getElem_of_mem hx
    exact h4 i hi (by omega)
  have hd : s.data.toList.headD 0 = s[0] := by
    rw [List.headD_eq_head?_getD, List.head?_eq_getElem?, List.getElem?_eq_getElem (by omega), sd s 0 h0]; rfl
  rw [ha, h3, hd, h2]
  simp only [Bool.not_false, Bool.and_true, Bool.and_eq_true, decide_eq_true_eq]
  exact ⟨by intro e; rw [e] at hl; simp at hl; omega, by omega⟩
theorem digit_is (c : Int) (r : Bool) (w : World) (hr : isDig c = r) (h0 : 0 ≤ c := by omega) (h1 : c ≤ 255 := by omega) :
    Calls Tryd.prog 72 #[.int .u8 c] w fun e w' => e = .returned (.bool r) ∧ w = w' := by subst hr; exact digit_any c w h0 h1
theorem letter_is (c : Int) (r : Bool) (w : World) (hr : isLet c = r) (h0 : 0 ≤ c := by omega) (h1 : c ≤ 255 := by omega) :
    Calls Tryd.prog 74 #[.int .u8 c] w fun e w' => e = .returned (.bool r) ∧ w = w' := by subst hr; exact letter_any c w h0 h1
theorem word_is (s : ByteArray) (r : Bool) (w : World) (hr : wordB s.data.toList = r) :
    Calls Tryd.prog 73 #[.string s] w fun e w' => e = .returned (.bool r) ∧ w = w' := by subst hr; rw [← toList_data]; exact word_any s w
theorem u8_le (s : ByteArray) (k : Nat) (h : k < s.size) : (0 : Int) ≤ s[k].toNat ∧ (s[k].toNat : Int) ≤ 255 := by
  have := UInt8.toNat_lt s[k]
  omega
theorem ne_nil {s : ByteArray} (h : 0 < s.size) : (s.toList == []) = false := by
  rw [toList_data]
  have hl : s.data.toList.length = s.size := by simp
  apply beq_no
  intro e
  rw [e] at hl
  simp at hl
  omega
theorem empty_of {s : ByteArray} (h : s.size = 0) : s = ByteArray.empty := by
  have : s.data.toList = [] := List.eq_nil_of_length_eq_zero (by simpa using h)
  cases s with | mk d => simp at this; subst this; rfl
theorem headD_of {s : ByteArray} (h0 : 0 < s.size) : s.data.toList.headD 0 = s[0] := by
  rw [List.headD_eq_head?_getD, List.head?_eq_getElem?, List.getElem?_eq_getElem (by simpa using h0), sd s 0 h0]; rfl
set_option maxHeartbeats 800000 in
theorem name_any (s : ByteArray) (w : World) :
    Calls Tryd.prog 53 #[.string s] w (NameP s.data.toList w) := by
  by_cases h0 : s.size = 0
  · obtain rfl := empty_of h0
    clear h0
    go_enter Tryd.func53, Tryd.ntmps53
    go_wp2
    go_ret
    exact name_no nameB_nil
  have p0 : 0 < s.size := by omega
  have hne := ne_nil p0
  clear h0
  by_cases h1 : 16 < s.size
  · go_enter Tryd.func53, Tryd.ntmps53
    go_wp2
    go_ret
    exact name_no (nameB_long (by simpa using h1))
  have p1 : s.size ≤ 16 := by omega
  clear h1
  obtain ⟨b0, b1⟩ := u8_le s 0 p0
  by_cases hd : isDig s[0].toNat = true
  · have HD := Lib.hid hd
    clear hd
    go_enter Tryd.func53, Tryd.ntmps53
    go_wp2_with (go_at_call 72; refine (digit_is _ true _ HD.out).mono ?_; rintro e w' ⟨rfl, rfl⟩)
    go_ret
    exact name_no (nameB_dig (by rw [headD_of p0]; exact HD.out))
  have hd' : isDig s[0].toNat = false := by simpa using hd
  have HD := Lib.hid hd'
  clear hd hd'
  by_cases hw : wordB s.data.toList = true
  · have HW := Lib.hid hw
    clear hw
    go_enter Tryd.func53, Tryd.ntmps53
    go_wp2_with (first
      | (go_at_call 72; refine (digit_is _ false _ HD.out).mono ?_; rintro e w' ⟨rfl, rfl⟩)
      | (go_at_call 73; refine (word_is _ true _ HW.out).mono ?_; rintro e w' ⟨rfl, rfl⟩))
    go_ret
    exact name_no (nameB_word HW.out)
  have hw' : wordB s.data.toList = false := by simpa using hw
  have HW := Lib.hid hw'
  clear hw hw'
  go_enter Tryd.func53, Tryd.ntmps53
  go_wp2_with (first
    | (go_at_call 72; refine (digit_is _ false _ HD.out).mono ?_; rintro e w' ⟨rfl, rfl⟩)
    | (go_at_call 73; refine (word_is _ false _ HW.out).mono ?_; rintro e w' ⟨rfl, rfl⟩))
  go_loop [22] (fun i => ∃ k : Nat, k ≤ s.size ∧ i = .int .i64 k ∧ Hid (AllN s k)) (fun i => s.size - (intOf i).toNat)
  case atStart => exact ⟨0, by omega, rfl, AllN.zero s⟩
  case round =>
    obtain ⟨k, hk, rfl, ha⟩ := hrel
    by_cases hlt : k < s.size
    · obtain ⟨c0, c1⟩ := u8_le s k hlt
      obtain ⟨bl, hbl⟩ : ∃ b, isLet s[k].toNat = b := ⟨_, rfl⟩
      obtain ⟨bd, hbd⟩ : ∃ b, isDig s[k].toNat = b := ⟨_, rfl⟩
      have HBL := Lib.hid hbl
      have HBD := Lib.hid hbd
      clear hbl hbd
      cases bl with
      | true =>
        go_wp2_with (first
          | (go_at_call 74; refine (letter_is _ true _ HBL.out).mono ?_; rintro e w' ⟨rfl, rfl⟩))
        go_round
        case rel => exact ⟨k + 1, by omega, by go_num, ha.out.succ hlt (by rw [HBL.out]; rfl)⟩
        case measure => simp [intOf]; omega
      | false =>
        cases bd with
        | true =>
          go_wp2_with (first
            | (go_at_call 74; refine (letter_is _ false _ HBL.out).mono ?_; rintro e w' ⟨rfl, rfl⟩)
            | (go_at_call 72; refine (digit_is _ true _ HBD.out).mono ?_; rintro e w' ⟨rfl, rfl⟩))
          go_round
          case rel => exact ⟨k + 1, by omega, by go_num, ha.out.succ hlt (by rw [HBL.out, HBD.out]; rfl)⟩
          case measure => simp [intOf]; omega
        | false =>
          go_wp2_with (first
            | (go_at_call 74; refine (letter_is _ false _ HBL.out).mono ?_; rintro e w' ⟨rfl, rfl⟩)
            | (go_at_call 72; refine (digit_is _ false _ HBD.out).mono ?_; rintro e w' ⟨rfl, rfl⟩))
          go_ret
          exact name_no (nameB_bad (k := k) (by simpa using hlt) (by rw [sd s k hlt]; unfold okc; rw [HBL.out, HBD.out]; rfl))
    · have hk' : k = s.size := by omega
      subst hk'
      clear hlt
      go_wp2
      go_ret
      exact name_yes' (nameB_yes p0 p1 HD.out HW.out ha.out)
theorem name_is (s : ByteArray) (r : Bool) (w : World) (hr : nameB s.data.toList = r) :
    Calls Tryd.prog 53 #[.string s] w fun e w' => e = .returned (.bool r) ∧ w = w' := by subst hr; exact name_any s w
end Go.Proofs.YtookojgemipakaaDoor.Sch

/- What a name is, as the statements' own words have it: the same. -/
namespace Go.Proofs.YtookojgemipakaaDoor.Sch
open Go.RowKit Go.Proofs.YtookojgemipakaaDoor
set_option linter.unusedVariables false

def NameR (l : List UInt8) (w : World) (e : Ending) (w' : World) : Prop := e = .returned (.bool (nameB l)) ∧ Below w.heap.size w w'
theorem nameR_no {l : List UInt8} {w w' : World} (h : nameB l = false) (hb : Below w.heap.size w w') : NameR l w (.returned (.bool false)) w' := ⟨by rw [h], hb⟩
theorem nameR_yes {l : List UInt8} {w w' : World} (h : nameB l = true) (hb : Below w.heap.size w w') : NameR l w (.returned (.bool true)) w' := ⟨by rw [h], hb⟩
/-- The bytes so far are such as a name may have, the first one no digit. -/
def Fst (s : ByteArray) (k : Nat) : Prop := AllN s k ∧ ∀ h : 0 < s.size, 0 < k → isDig s[0].toNat = false
theorem Fst.zero (s : ByteArray) : Fst s 0 := ⟨AllN.zero s, fun _ h => absurd h (by omega)⟩
theorem Fst.succ {s : ByteArray} {k : Nat} (h : Fst s k) (hk : k < s.size) (g : (isLet s[k].toNat || isDig s[k].toNat) = true) (g0 : k = 0 → isDig s[k].toNat = false) : Fst s (k + 1) := by
  refine ⟨h.1.succ hk g, fun h0 _ => ?_⟩
  rcases Nat.eq_zero_or_pos k with rfl | hp
  · exact g0 rfl
  · exact h.2 h0 hp
theorem isLet_t {c : Int} (h : (97 ≤ c ∧ c ≤ 122) ∨ (65 ≤ c ∧ c ≤ 90) ∨ c = 95) : isLet c = true := by unfold isLet; exact decide_eq_true h
theorem isLet_f {c : Int} (h : ¬ ((97 ≤ c ∧ c ≤ 122) ∨ (65 ≤ c ∧ c ≤ 90) ∨ c = 95)) : isLet c = false := by unfold isLet; exact decide_eq_false h
theorem isDig_t {c : Int} (h : 48 ≤ c ∧ c ≤ 57) : isDig c = true := by unfold isDig; exact decide_eq_true h
theorem isDig_f {c : Int} (h : ¬ (48 ≤ c ∧ c ≤ 57)) : isDig c = false := by unfold isDig; exact decide_eq_false h
def NoW (s : ByteArray) (k : Nat) : Prop := ∀ j, j < k → s.toList ≠ words.getD j []
theorem NoW.succ {s : ByteArray} {k : Nat} (h : NoW s k) (g : s.toList ≠ words.getD k []) : NoW s (k + 1) := fun j hj => by
  by_cases e : j = k
  · subst e; exact g
  · exact h j (by omega)
theorem NoW.none {s : ByteArray} (h : NoW s 9) : wordB s.data.toList = false := by
  unfold wordB
  refine decide_eq_false fun hm => ?_
  obtain ⟨j, hj, e⟩ := List.getElem_of_mem hm
  have h9 : j < 9 := hj
  refine h j h9 ?_
  rw [toList_data, List.getD_eq_getElem?_getD, List.getElem?_eq_getElem hj, e]; rfl
theorem word_of {s : ByteArray} {k : Nat} (hk : k < 9) (h : s.toList = words.getD k []) : wordB s.data.toList = true := by
  unfold wordB
  refine decide_eq_true ?_
  rw [← toList_data, h, List.getD_eq_getElem?_getD, List.getElem?_eq_getElem (show k < words.length from hk)]
  exact List.getElem_mem _
theorem beq_yes {a b : List UInt8} (h : a = b) : (a == b) = true := by simpa using h
end Go.Proofs.YtookojgemipakaaDoor.Sch

/- Fields and types as they lie in memory; where the one of a name stands. -/
namespace Go.Proofs.YtookojgemipakaaDoor.Sch
open Go.RowKit Go.Proofs.YtookojgemipakaaDoor
set_option linter.unusedVariables false

theorem cell_same {w w' : World} {p : Addr} (h : w'.heap[p.block]? = w.heap[p.block]?) : w'.cell? p = w.cell? p := by unfold World.cell?; rw [h]
abbrev Fld := ByteArray × Int
/-- A slice of fields, in blocks of which S speaks. -/
def FsS (w : World) (S : Nat → Prop) (v : Value) (fs : List Fld) : Prop :=
  ∃ A c, v = .slice A fs.length c ∧ fs.length ≤ c ∧ c ≤ 9223372036854775807 ∧
    ∀ k (h : k < fs.length), ∃ g o, A = some ⟨g, o, none⟩ ∧ S g ∧ w.cell? ⟨g, o + k * 2, none⟩ = some (.string fs[k].1) ∧ w.cell? ⟨g, o + k * 2 + 1, none⟩ = some (.int .i64 fs[k].2)
theorem FsS.keep {w w' : World} {S S' : Nat → Prop} {v : Value} {fs : List Fld} (h : FsS w S v fs) (hk : ∀ g, g < w.heap.size → S g → w'.heap[g]? = w.heap[g]? ∧ S' g) : FsS w' S' v fs := by
  obtain ⟨A, c, rfl, h1, h2, h3⟩ := h
  refine ⟨A, c, rfl, h1, h2, fun k hk' => ?_⟩
  obtain ⟨g, o, e, hs, c0, c1⟩ := h3 k hk'
  obtain ⟨q, hs'⟩ := hk g (World.block_lt_of_cell? w _ c0) hs
  exact ⟨g, o, e, hs', (cell_same (p := ⟨g, o + k * 2, none⟩) q).trans c0, (cell_same (p := ⟨g, o + k * 2 + 1, none⟩) q).trans c1⟩
/-- .. in blocks that lie below B. -/
def Fs (w : World) (B : Nat) (v : Value) (fs : List Fld) : Prop := FsS w (· < B) v fs
theorem Fs.below {w w' : World} {B B' : Nat} {v : Value} {fs : List Fld} (h : Fs w B v fs) (hb : Below B w w') (hB : B ≤ B') : Fs w' B' v fs :=
  FsS.keep h fun g _ hs => ⟨hb.block g hs, Nat.lt_of_lt_of_le hs hB⟩
abbrev Ty := ByteArray × List Fld
/-- A slice of types, in blocks that lie below B. -/
def Ts (w : World) (B : Nat) (v : Value) (ts : List Ty) : Prop :=
  ∃ A c, v = .slice A ts.length c ∧ ts.length ≤ c ∧ c ≤ 9223372036854775807 ∧
    ∀ k (h : k < ts.length), ∃ g o fv, A = some ⟨g, o, none⟩ ∧ g < B ∧ w.cell? ⟨g, o + k * 2, none⟩ = some (.string ts[k].1) ∧ w.cell? ⟨g, o + k * 2 + 1, none⟩ = some fv ∧ Fs w B fv ts[k].2
theorem Ts.below {w w' : World} {B B' : Nat} {v : Value} {ts : List Ty} (h : Ts w B v ts) (hb : Below B w w') (hB : B ≤ B') : Ts w' B' v ts := by
  obtain ⟨A, c, rfl, h1, h2, h3⟩ := h
  refine ⟨A, c, rfl, h1, h2, fun k hk' => ?_⟩
  obtain ⟨g, o, fv, e, hs, c0, c1, hf⟩ := h3 k hk'
  exact ⟨g, o, fv, e, by omega, (hb.cell (p := ⟨g, o + k * 2, none⟩) hs).trans c0, (hb.cell (p := ⟨g, o + k * 2 + 1, none⟩) hs).trans c1, hf.below hb hB⟩
/-- The place of a name; -1: it is none's. -/
def idx (l : List ByteArray) (nm : ByteArray) : Int := match l.findIdx? (fun x => x.toList == nm.toList) with
  | some k => k
  | none => -1
theorem idx_hit {l : List ByteArray} {nm : ByteArray} {k : Nat} (hk : k < l.length) (h : l[k].toList = nm.toList) (hn : ∀ j (hj : j < l.length), j < k → l[j].toList ≠ nm.toList) : idx l nm = k := by
  unfold idx
  have : l.findIdx? (fun x => x.toList == nm.toList) = some k := by
    rw [List.findIdx?_eq_some_iff_getElem]
    exact ⟨hk, by simpa using h, fun j hj => by simpa using hn j (by omega) hj⟩
  rw [this]
theorem idx_miss {l : List ByteArray} {nm : ByteArray} (hn : ∀ j (hj : j < l.length), l[j].toList ≠ nm.toList) : idx l nm = -1 := by
  unfold idx
  have : l.findIdx? (fun x => x.toList == nm.toList) = none := by
    rw [List.findIdx?_eq_none_iff]
    intro x hx
    obtain ⟨j, hj, rfl⟩ := List.getElem_of_mem hx
    simpa using hn j hj
  rw [this]
theorem idx_lt {l : List ByteArray} {nm : ByteArray} : idx l nm < l.length ∧ -1 ≤ idx l nm := by
  unfold idx
  cases h : l.findIdx? (fun x => x.toList == nm.toList) with
  | none => simp; omega
  | some k =>
    rw [List.findIdx?_eq_some_iff_getElem] at h
    obtain ⟨hk, _⟩ := h
    simp; omega
set_option maxHeartbeats 800000 in
theorem fieldEq_any (n nm : ByteArray) (k : Int) (B : Nat) (w : World) (hc : w.cell? ⟨B, 0, none⟩ = some (.string nm)) (r : Bool) (hr : (n.toList == nm.toList) = r) :
    Calls Tryd.prog 76 #[.agg #[.string n, .int .i64 k], .pointer (some ⟨B, 0, none⟩)] w fun e w' => e = .returned (.bool r) ∧ Below w.heap.size w w' := by
  have hB : B < w.heap.size := World.block_lt_of_cell? w ⟨B, 0, none⟩ hc
  have hne : B ≠ w.heap.size := by omega
  go_enter Tryd.func76, Tryd.ntmps76
  go_wp2
  all_goals
    go_ret
    exact ⟨rfl, (Below.refl _ w).alloc (Nat.le_refl _) _⟩
set_option maxHeartbeats 800000 in
theorem typeEq_any (n nm : ByteArray) (v : Value) (B : Nat) (w : World) (hc : w.cell? ⟨B, 0, none⟩ = some (.string nm)) (r : Bool) (hr : (n.toList == nm.toList) = r) :
    Calls Tryd.prog 57 #[.agg #[.string n, v], .pointer (some ⟨B, 0, none⟩)] w fun e w' => e = .returned (.bool r) ∧ Below w.heap.size w w' := by
  have hB : B < w.heap.size := World.block_lt_of_cell? w ⟨B, 0, none⟩ hc
  have hne : B ≠ w.heap.size := by omega
  go_enter Tryd.func57, Tryd.ntmps57
  go_wp2
  all_goals
    go_ret
    exact ⟨rfl, (Below.refl _ w).alloc (Nat.le_refl _) _⟩
def NoF (l : List ByteArray) (nm : ByteArray) (k : Nat) : Prop := ∀ j (hj : j < l.length), j < k → l[j].toList ≠ nm.toList
theorem NoF.succ {l : List ByteArray} {nm : ByteArray} {k : Nat} (h : NoF l nm k) (hk : k < l.length) (g : (l[k].toList == nm.toList) = false) : NoF l nm (k + 1) := fun j hj h1 => by
  by_cases e : j = k
  · subst e; simpa using g
  · exact h j hj (by omega)
set_option maxHeartbeats 1600000 in
theorem indexField_any (v : Value) (fs : List Fld) (nm : ByteArray) (B : Nat) (w : World) (hf : Fs w w.heap.size v fs) (hc : w.cell? ⟨B, 0, none⟩ = some (.string nm)) :
    Calls Tryd.prog 75 #[v, .func (.func 76) #[] #[.pointer (some ⟨B, 0, none⟩)]] w fun e w' => e = .returned (.int .i64 (idx (fs.map Prod.fst) nm)) ∧ Below w.heap.size w w' := by
  have hB : B < w.heap.size := World.block_lt_of_cell? w ⟨B, 0, none⟩ hc
  have HF := Lib.hid hf
  obtain ⟨A, c, rfl, hn, hcm, _⟩ := hf
  have hlen : (fs.map Prod.fst).length = fs.length := by simp
  have HLN := Lib.hid hlen
  have HC := Lib.hid hc
  clear hc hlen
  go_enter Tryd.func75, Tryd.ntmps75
  go_wp2
  go_loopw [8] (fun s wr => ∃ k : Nat, k ≤ fs.length ∧ s = .int .i64 k ∧ Hid (Below w.heap.size w wr) ∧ Hid (NoF (fs.map Prod.fst) nm k)) (fun s _ => fs.length - (intOf s).toNat)
  case atStart => exact ⟨0, by omega, rfl, Below.refl _ _, fun _ _ h => absurd h (by omega)⟩
  case round =>
    obtain ⟨k, hk, rfl, hb, hno⟩ := hrel
    by_cases hlt : k < fs.length
    · obtain ⟨A', c', e1, _, _, h3⟩ := HF.out.below hb.out (Nat.le_refl _)
      injection e1 with e1 _ e3
      subst e1 e3
      obtain ⟨g, o, rfl, hg, c0, c1⟩ := h3 k hlt
      have hcB : wr.cell? ⟨B, 0, none⟩ = some (.string nm) := (hb.out.cell (p := ⟨B, 0, none⟩) hB).trans HC.out
      have HCB := Lib.hid hcB
      clear hcB h3
      obtain ⟨r, hr⟩ : ∃ r, (fs[k].1.toList == nm.toList) = r := ⟨_, rfl⟩
      have HR := Lib.hid hr
      have hkl : k < (fs.map Prod.fst).length := by rw [HLN.out]; exact hlt
      have hget : (fs.map Prod.fst)[k]'hkl = fs[k].1 := by simp
      have HG := Lib.hid hget
      clear hr hget
      obtain ⟨x, hx⟩ : ∃ x, x = fs[k].1 := ⟨_, rfl⟩
      obtain ⟨y, hy⟩ : ∃ y, y = fs[k].2 := ⟨_, rfl⟩
      rw [← hx] at c0 HR HG
      rw [← hy] at c1
      clear hx hy
      cases r with
      | true =>
        go_wp2_with (go_at_call 76; refine (fieldEq_any _ nm _ B _ HCB.out true HR.out).mono ?_; rintro e w' ⟨rfl, hb'⟩)
        go_ret
        exact ⟨by rw [idx_hit hkl (by rw [HG.out]; simpa using HR.out) hno.out]; rfl, hb.out.trans (hb'.mono hb.out.size)⟩
      | false =>
        go_wp2_with (go_at_call 76; refine (fieldEq_any _ nm _ B _ HCB.out false HR.out).mono ?_; rintro e w' ⟨rfl, hb'⟩)
        go_roundw
        case rel => exact ⟨k + 1, by omega, by go_num, hb.out.trans (hb'.mono hb.out.size), hno.out.succ hkl (by rw [HG.out]; exact HR.out)⟩
        case measure => simp [intOf]; omega
    · have hk' : k = fs.length := by omega
      subst hk'
      clear hlt
      go_wp2
      go_ret
      exact ⟨by rw [idx_miss (fun j hj => hno.out j hj (by rw [HLN.out] at hj; exact hj))]; rfl, hb.out⟩
set_option maxHeartbeats 1600000 in
theorem indexType_any (v : Value) (fs : List Ty) (nm : ByteArray) (B : Nat) (w : World) (hf : Ts w w.heap.size v fs) (hc : w.cell? ⟨B, 0, none⟩ = some (.string nm)) :
    Calls Tryd.prog 56 #[v, .func (.func 57) #[] #[.pointer (some ⟨B, 0, none⟩)]] w fun e w' => e = .returned (.int .i64 (idx (fs.map Prod.fst) nm)) ∧ Below w.heap.size w w' := by
  have hB : B < w.heap.size := World.block_lt_of_cell? w ⟨B, 0, none⟩ hc
  have HF := Lib.hid hf
  obtain ⟨A, c, rfl, hn, hcm, _⟩ := hf
  have hlen : (fs.map Prod.fst).length = fs.length := by simp
  have HLN := Lib.hid hlen
  have HC := Lib.hid hc
  clear hc hlen
  go_enter Tryd.func56, Tryd.ntmps56
  go_wp2
  go_loopw [8] (fun s wr => ∃ k : Nat, k ≤ fs.length ∧ s = .int .i64 k ∧ Hid (Below w.heap.size w wr) ∧ Hid (NoF (fs.map Prod.fst) nm k)) (fun s _ => fs.length - (intOf s).toNat)
  case atStart => exact ⟨0, by omega, rfl, Below.refl _ _, fun _ _ h => absurd h (by omega)⟩
  case round =>
    obtain ⟨k, hk, rfl, hb, hno⟩ := hrel
    by_cases hlt : k < fs.length
    · obtain ⟨A', c', e1, _, _, h3⟩ := HF.out.below hb.out (Nat.le_refl _)
      injection e1 with e1 _ e3
      subst e1 e3
      obtain ⟨g, o, y, rfl, hg, c0, c1, _⟩ := h3 k hlt
      have hcB : wr.cell? ⟨B, 0, none⟩ = some (.string nm) := (hb.out.cell (p := ⟨B, 0, none⟩) hB).trans HC.out
      have HCB := Lib.hid hcB
      clear hcB h3
      obtain ⟨r, hr⟩ : ∃ r, (fs[k].1.toList == nm.toList) = r := ⟨_, rfl⟩
      have HR := Lib.hid hr
      have hkl : k < (fs.map Prod.fst).length := by rw [HLN.out]; exact hlt
      have hget : (fs.map Prod.fst)[k]'hkl = fs[k].1 := by simp
      have HG := Lib.hid hget
      clear hr hget
      obtain ⟨x, hx⟩ : ∃ x, x = fs[k].1 := ⟨_, rfl⟩
      rw [← hx] at c0 HR HG
      clear hx
      cases r with
      | true =>
        go_wp2_with (go_at_call 57; refine (typeEq_any _ nm _ B _ HCB.out true HR.out).mono ?_; rintro e w' ⟨rfl, hb'⟩)
        go_ret
        exact ⟨by rw [idx_hit hkl (by rw [HG.out]; simpa using HR.out) hno.out]; rfl, hb.out.trans (hb'.mono hb.out.size)⟩
      | false =>
        go_wp2_with (go_at_call 57; refine (typeEq_any _ nm _ B _ HCB.out false HR.out).mono ?_; rintro e w' ⟨rfl, hb'⟩)
        go_roundw
        case rel => exact ⟨k + 1, by omega, by go_num, hb.out.trans (hb'.mono hb.out.size), hno.out.succ hkl (by rw [HG.out]; exact HR.out)⟩
        case measure => simp [intOf]; omega
    · have hk' : k = fs.length := by omega
      subst hk'
      clear hlt
      go_wp2
      go_ret
      exact ⟨by rw [idx_miss (fun j hj => hno.out j hj (by rw [HLN.out] at hj; exact hj))]; rfl, hb.out⟩
end Go.Proofs.YtookojgemipakaaDoor.Sch

/- Where a type, and a field, of a name stands in a schema. -/
namespace Go.Proofs.YtookojgemipakaaDoor.Sch
open Go.RowKit Go.Proofs.YtookojgemipakaaDoor
set_option linter.unusedVariables false

theorem fieldPlace_any (v : Value) (fs : List Fld) (nm : ByteArray) (B : Nat) (w : World) (hf : Fs w B v fs) (hB : B ≤ w.heap.size) :
    Calls Tryd.prog 55 #[v, .string nm] w fun e w' => e = .returned (.int .i64 (idx (fs.map Prod.fst) nm)) ∧ Below w.heap.size w w' := by
  have HF := Lib.hid hf
  clear hf
  go_enter Tryd.func55, Tryd.ntmps55
  go_wp2_with fail
  refine (indexField_any v fs nm w.heap.size _ ((HF.out.below ((Below.refl B w).alloc hB _) hB).below (Below.refl _ _) (by simp)) (by simp)).mono ?_
  rintro e w' ⟨rfl, hb⟩
  go_wp2
  go_ret
  exact ⟨rfl, ((Below.refl _ w).alloc (Nat.le_refl _) _).trans (hb.mono (by simp))⟩
/-- A schema: where it lies, and its types. -/
def Sc (w : World) (B : Nat) (p : Option Addr) (ts : List Ty) : Prop := ∃ b v, p = some ⟨b, 0, none⟩ ∧ b < B ∧ w.cell? ⟨b, 0, none⟩ = some v ∧ Ts w B v ts
theorem Sc.below {w w' : World} {B B' : Nat} {p : Option Addr} {ts : List Ty} (h : Sc w B p ts) (hb : Below B w w') (hB : B ≤ B') : Sc w' B' p ts := by
  obtain ⟨b, v, rfl, h1, h2, h3⟩ := h
  exact ⟨b, v, rfl, by omega, (hb.cell (p := ⟨b, 0, none⟩) h1).trans h2, h3.below hb hB⟩
theorem place_any (p : Option Addr) (ts : List Ty) (nm : ByteArray) (B : Nat) (w : World) (hs : Sc w B p ts) (hB : B ≤ w.heap.size) :
    Calls Tryd.prog 32 #[.pointer p, .string nm] w fun e w' => e = .returned (.int .i64 (idx (ts.map Prod.fst) nm)) ∧ Below w.heap.size w w' := by
  obtain ⟨b, v, rfl, hb, hc, hts⟩ := hs
  have HF := Lib.hid hts
  have hbw : b < w.heap.size := World.block_lt_of_cell? w ⟨b, 0, none⟩ hc
  have hne : b ≠ w.heap.size := by omega
  clear hts
  go_enter Tryd.func32, Tryd.ntmps32
  go_wp2_with fail
  refine (indexType_any v ts nm w.heap.size _ ((HF.out.below ((Below.refl B w).alloc hB _) hB).below (Below.refl _ _) (by simp)) (by simp)).mono ?_
  rintro e w' ⟨rfl, hb⟩
  go_wp2
  go_ret
  exact ⟨rfl, ((Below.refl _ w).alloc (Nat.le_refl _) _).trans (hb.mono (by simp))⟩
theorem place_nil (nm : ByteArray) (w : World) :
    Calls Tryd.prog 32 #[.pointer none, .string nm] w fun e w' => e = .returned (.int .i64 (-1)) ∧ Below w.heap.size w w' := by
  go_enter Tryd.func32, Tryd.ntmps32
  go_wp2
  go_ret
  exact ⟨rfl, (Below.refl _ w).alloc (Nat.le_refl _) _⟩
theorem field_nil (n f : ByteArray) (w : World) :
    Calls Tryd.prog 40 #[.pointer none, .string n, .string f] w fun e w' => e = .returned (.tuple #[.int .i64 (-1), .int .i64 0]) ∧ Below w.heap.size w w' := by
  go_enter Tryd.func40, Tryd.ntmps40
  go_wp2_with (go_at_call 32; refine (place_nil _ _).mono ?_; rintro e w' ⟨rfl, hb⟩)
  go_ret2
  exact ⟨rfl, hb⟩
theorem find_nil (n : ByteArray) (w : World) :
    Calls Tryd.prog 63 #[.pointer none, .string n] w fun e w' => (∃ v, e = .returned (.tuple #[v, .bool false])) ∧ Below w.heap.size w w' := by
  go_enter Tryd.func63, Tryd.ntmps63
  go_wp2_with fail
  refine (place_nil _ _).mono ?_
  rintro e w' ⟨rfl, hb⟩
  have R : Row w' w.heap.size 67 #[.string ByteArray.empty, .slice none 0 0] := Row.below (Row.made w _ _) hb (by simp)
  have c0 : w'.cell? ⟨w.heap.size, 0, none⟩ = some (.string ByteArray.empty) := (R.cell 0).trans rfl
  have c1 : w'.cell? ⟨w.heap.size, 1, none⟩ = some (.slice none 0 0) := (R.cell 1).trans rfl
  have f0 := R.free 0
  have f1 := R.free 1
  have HB := Lib.hid (((Below.refl w.heap.size w).alloc (Nat.le_refl _) _).trans (hb.mono (by simp)))
  clear hb R
  go_wp2
  have e0 : (w'.setCell ⟨w.heap.size, 0, none⟩ (.string ⟨#[]⟩)).cell? ⟨w.heap.size, 0, none⟩ = some (.string ⟨#[]⟩) := World.cell?_setCell_same' _ _ _ (by rw [c0]; rfl)
  try simp only [Exit.inBlock, Exit.then]
  refine bodyPost_ret (by simp [results, Tryd.results63, go_sem, e0, c1]; try rfl) rfl ?_
  exact ⟨⟨_, rfl⟩, (HB.out.setCell (Nat.le_refl _) _).setCell (Nat.le_refl _) _⟩
/-- Where a field of a type stands, and its kind. -/
theorem field_yes (p : Option Addr) (ts : List Ty) (n f : ByteArray) (B i j : Nat) (fs : List Fld) (w : World) (hs : Sc w B p ts) (hB : B ≤ w.heap.size) {n' f' : ByteArray} {kd : Int} (hi : idx (ts.map Prod.fst) n = i) (hti : ts[i]? = some (n', fs)) (hj : idx (fs.map Prod.fst) f = j) (hfj : fs[j]? = some (f', kd)) :
    Calls Tryd.prog 40 #[.pointer p, .string n, .string f] w fun e w' => e = .returned (.tuple #[.int .i64 j, .int .i64 kd]) ∧ Below w.heap.size w w' := by
  have HS := Lib.hid hs
  obtain ⟨b, v, rfl, hb, hc, hts⟩ := hs
  obtain ⟨A, c, rfl, hn, hcm, h3⟩ := hts
  obtain ⟨hil, hie⟩ := List.getElem?_eq_some_iff.1 hti
  obtain ⟨g, o, fv, rfl, hg, c0, c1, hfs⟩ := h3 i hil
  rw [hie] at hfs
  have HFS := Lib.hid hfs
  obtain ⟨A2, c2, rfl, hn2, hcm2, h4⟩ := hfs
  obtain ⟨hjl, hje⟩ := List.getElem?_eq_some_iff.1 hfj
  obtain ⟨g2, o2, rfl, hg2, d0, d1⟩ := h4 j hjl
  rw [hje] at d1
  clear h3 h4 c0 d0 hti hie hfj hje
  have HI := Lib.hid hi
  have HJ := Lib.hid hj
  have hi63 : i ≤ 9223372036854775807 := by omega
  clear hi hj
  have c1w := Lib.hid c1
  have d1w := Lib.hid d1
  have hcw := Lib.hid hc
  clear c1 d1 hc
  go_enter Tryd.func40, Tryd.ntmps40
  go_wp2_with fail
  refine (place_any _ ts n B _ HS.out hB).mono ?_
  rintro e w1 ⟨rfl, hb1⟩
  rw [HI.out]
  have e1 : w1.cell? ⟨b, 0, none⟩ = some (.slice (some ⟨g, o, none⟩) ts.length c) := (hb1.cell (p := ⟨b, 0, none⟩) (by simp; omega)).trans hcw.out
  have e2 : w1.cell? ⟨g, o + i * 2 + 1, none⟩ = some (.slice (some ⟨g2, o2, none⟩) fs.length c2) := (hb1.cell (p := ⟨g, o + i * 2 + 1, none⟩) (by simp; omega)).trans c1w.out
  have HFS1 := Lib.hid (HFS.out.below (hb1.mono hB) (Nat.le_refl _))
  go_wp2_with fail
  refine (fieldPlace_any _ fs f B _ HFS1.out (Nat.le_trans hB hb1.size)).mono ?_
  rintro e w2 ⟨rfl, hb2⟩
  rw [HJ.out]
  have e3 : w2.cell? ⟨g2, o2 + j * 2 + 1, none⟩ = some (.int .i64 kd) := (hb2.cell (p := ⟨g2, o2 + j * 2 + 1, none⟩) (by have := hb1.size; simp; omega)).trans ((hb1.cell (p := ⟨g2, o2 + j * 2 + 1, none⟩) (by simp; omega)).trans d1w.out)
  have HB := Lib.hid (hb1.trans (hb2.mono hb1.size))
  clear e1 e2 hb1 hb2
  go_wp2_with fail
  go_quiet (fail)
  go_wp2
  go_ret2
  exact ⟨rfl, HB.out.os, HB.out.tape, HB.out.output, HB.out.size, HB.out.block⟩
end Go.Proofs.YtookojgemipakaaDoor.Sch

/- A slice of fields copied; a type copied. -/
namespace Go.Proofs.YtookojgemipakaaDoor.Sch
open Go.RowKit Go.Proofs.YtookojgemipakaaDoor
set_option linter.unusedVariables false

section
variable {P : Program} {w w' : World} {e : TypeId} {v : Value} {n : Nat} {xs : List Value} {ob : Option Nat} {size : Nat}
theorem seg_zero (w : World) (e : TypeId) (size : Nat) (A : Option Addr) : Seg w e size (.slice A 0 0) 0 [] none := ⟨by simp, _, 0, rfl, Nat.le_refl _, by unfold maxLen; omega, .inl ⟨rfl, rfl, fun _ => trivial⟩⟩
theorem run_append_none2 (t ty : TypeId) (i : TypeInfo) (ht : P.underlying t = some (.slice e)) (hi : P.info? e = some i) (h : Seg w e size v n xs ob) (A : Option Addr) (c : Nat) :
    (Builtin.append_ #[t, t] ty #[v, .slice A 0 c]).run P w = .ok v w := by
  obtain ⟨D, cap, rfl, hn, _⟩ := h.form
  cases A with
  | none => cases D <;> simp [Builtin.append_, run_underlying ht, sizeOf, typeInfo, hi, Builtin.lenOf, Builtin.firstCells, hn, storeCells]
  | some a =>
    have hf := run_firstCells_some (P := P) w i.size 0 a 0 c [] (by simp) (by simp)
    cases D <;> simp [Builtin.append_, run_underlying ht, sizeOf, typeInfo, hi, Builtin.lenOf, hf, hn, storeCells]
end
def cellsF (fs : List Fld) : List Value := fs.flatMap fun f => [.string f.1, .int .i64 f.2]
theorem cellsF_len (fs : List Fld) : (cellsF fs).length = fs.length * 2 := by
  induction fs with
  | nil => rfl
  | cons f fs ih => simp only [cellsF, List.flatMap_cons, List.length_append, List.length_cons, List.length_nil] at *; omega
theorem cellsF_get : ∀ (fs : List Fld) (k : Nat) (h : k < fs.length), (cellsF fs)[k * 2]? = some (.string fs[k].1) ∧ (cellsF fs)[k * 2 + 1]? = some (.int .i64 fs[k].2)
  | f :: fs, 0, _ => ⟨rfl, rfl⟩
  | f :: fs, k + 1, h => by
    have := cellsF_get fs k (by simpa using h)
    rw [show (k + 1) * 2 = k * 2 + 2 from by omega]
    exact this
theorem cellsF_at (fs : List Fld) (j : Nat) (u : Value) (h : (cellsF fs)[j]? = some u) : ∃ k, ∃ hk : k < fs.length, (j = k * 2 ∧ u = .string fs[k].1) ∨ (j = k * 2 + 1 ∧ u = .int .i64 fs[k].2) := by
  have hl : j < (cellsF fs).length := (List.getElem?_eq_some_iff.1 h).1
  rw [cellsF_len] at hl
  have hk : j / 2 < fs.length := by omega
  refine ⟨j / 2, hk, ?_⟩
  obtain ⟨h0, h1⟩ := cellsF_get fs (j / 2) hk
  rcases (show j = j / 2 * 2 ∨ j = j / 2 * 2 + 1 from by omega) with e | e
  · rw [← e, h] at h0; exact .inl ⟨e, by injection h0⟩
  · rw [← e, h] at h1; exact .inr ⟨e, by injection h1⟩
theorem cellsF_one (fs : List Fld) : ∀ u ∈ cellsF fs, u.oneCell' = true := by
  intro u hu
  obtain ⟨j, hj, e⟩ := List.getElem_of_mem hu
  obtain ⟨k, hk, ⟨_, rfl⟩ | ⟨_, rfl⟩⟩ := cellsF_at fs j u (by rw [List.getElem?_eq_getElem hj, e])
  · rfl
  · rfl
theorem fs_of_seg {w : World} {S : Nat → Prop} {v : Value} {fs : List Fld} {ob : Option Nat} (h : Seg w 72 2 v fs.length (cellsF fs) ob) (hS : ∀ g, ob = some g → S g) : FsS w S v fs := by
  rcases Nat.eq_zero_or_pos fs.length with h0 | h0
  · obtain ⟨A, c, rfl, h1, h2⟩ := h.form
    exact ⟨A, c, rfl, h1, by unfold maxLen at h2; omega, fun k hk => by omega⟩
  · obtain ⟨g, o, cap, rfl, ho, h1, h2, h3, _⟩ := h.shape h0
    refine ⟨_, cap, rfl, h1, by unfold maxLen at h2; omega, fun k hk => ⟨g, o, rfl, hS g ho, ?_, ?_⟩⟩
    · exact h3 _ _ (cellsF_get fs k hk).1
    · exact h3 _ _ (cellsF_get fs k hk).2
theorem field_info : (Tryd.prog.info? 72).map (fun i => (i.zero, i.size, i.bytes)) = some (some (.agg #[.string ByteArray.empty, .int .i64 0]), 2, 24) := by kernel_rfl
set_option maxRecDepth 100000 in
set_option maxHeartbeats 800000 in
theorem clone_any (v : Value) (fs : List Fld) (B : Nat) (w : World) (hf : Fs w B v fs) (hB : B ≤ w.heap.size) (hl : fs.length ≤ 1000000) :
    Calls Tryd.prog 58 #[v] w fun e w' => ∃ v', e = .returned v' ∧ FsS w' (fun g => w.heap.size ≤ g) v' fs ∧ Below w.heap.size w w' := by
  have q62 : ∀ (w : World) (a : Option Addr) (n c n' c' : Nat), (binOp .eql 65 (.slice a n c) (.slice none n' c')).run Tryd.prog w = .ok (.bool a.isNone) w := fun w a n c n' c' => Lib.run_eql_slice_nil w _ _ a n c n' c' Tryd.underlying65
  have HF := Lib.hid hf
  obtain ⟨A, c, rfl, hn, hcm, h3⟩ := hf
  cases A with
  | none =>
    have h0 : fs = [] := by
      cases fs with
      | nil => rfl
      | cons f fs => obtain ⟨g, o, e, _⟩ := h3 0 (by simp); cases e
    subst h0
    clear h3
    go_enter Tryd.func58, Tryd.ntmps58
    go_wp2
    go_ret
    exact ⟨.slice none 0 0, rfl, ⟨none, 0, rfl, by simp, by omega, fun k hk => by simp at hk⟩, Below.refl _ _⟩
  | some a =>
    obtain ⟨i0, hi0, hz0, hz1, hz2⟩ := info_parts field_info
    rcases Nat.eq_zero_or_pos fs.length with h0 | hpos
    · obtain rfl : fs = [] := List.eq_nil_of_length_eq_zero h0
      clear h3
      have hap := run_append_none2 (P := Tryd.prog) (w := w.alloc (.cells #[] 72)) 65 65 i0 Tryd.underlying65 hi0 (seg_zero _ 72 2 (some ⟨w.heap.size, 0, none⟩)) (some a) c
      go_enter Tryd.func58, Tryd.ntmps58
      go_wp2
      go_ret
      exact ⟨.slice (some ⟨w.heap.size, 0, none⟩) 0 0, rfl, ⟨_, 0, rfl, by simp, by omega, fun k hk => by simp at hk⟩, by go_grown⟩
    · obtain ⟨g, o, e, hg, _, _⟩ := h3 0 hpos
      injection e with e
      subst e
      have hnews : ∀ j u, (cellsF fs)[j]? = some u → (w.alloc (.cells #[] 72)).cell? ((⟨g, o, none⟩ : Addr).add j) = some u := fun j u hj => by
        obtain ⟨k, hk, he⟩ := cellsF_at _ j u hj
        obtain ⟨g', o', e1, hg', c0, c1⟩ := h3 k hk
        injection e1 with e1
        injection e1 with e1 e2
        subst e1 e2
        rw [Addr.add_lit]
        rcases he with ⟨rfl, rfl⟩ | ⟨rfl, rfl⟩
        · exact Lib.cell?_alloc_some _ c0
        · exact Lib.cell?_alloc_some _ c1
      have HN := Lib.hid hnews
      have hcl := cellsF_len fs
      have HCL := Lib.hid hcl
      clear h3 hnews hcl
      go_enter Tryd.func58, Tryd.ntmps58
      go_wp2_with (at_builtin; refine wpList_append_seg _ rfl _ _ 65 rfl 72 i0 _ 2 24 Tryd.underlying65 hi0 hz0 hz1 hz2 rfl (by decide) _ 0 [] none rfl (seg_zero _ _ _ _) ⟨g, o, none⟩ fs.length c (cellsF fs) rfl HCL.out HN.out (cellsF_one fs) hpos (by unfold maxLen; omega) (by omega) ?_; intro v1 w1 ob1 hs1 ht1 ho1)
      go_ret
      refine ⟨v1, rfl, fs_of_seg (by simpa using hs1) (fun g' hg' => ?_), ?_⟩
      · rcases ho1 with h | ⟨g2, h, hg2⟩
        · rw [h] at hg'; cases hg'
        · rw [h] at hg'; injection hg' with hg'; subst hg'; simp at hg2; omega
      · exact ht1.below (by go_grown) (by simp) (fun _ _ e => by cases e)
theorem made_two (w : World) (o : Obj) (t : TypeId) (cs : Array Value) : Row ((w.alloc o).alloc (.cells cs t)) (w.heap.size + 1) t cs := by simpa using Row.made (w.alloc o) t cs
set_option maxHeartbeats 800000 in
theorem twin_any (n : ByteArray) (v : Value) (fs : List Fld) (B : Nat) (w : World) (hf : Fs w B v fs) (hB : B ≤ w.heap.size) (hl : fs.length ≤ 1000000) :
    Calls Tryd.prog 33 #[.agg #[.string n, v]] w fun e w' => ∃ v', e = .returned (.agg #[.string n, v']) ∧ FsS w' (fun g => w.heap.size ≤ g ∧ g ≠ w.heap.size + 1) v' fs ∧ Below w.heap.size w w' := by
  have HF := Lib.hid hf
  obtain ⟨A, c, rfl, hn, hcm, _⟩ := hf
  go_enter Tryd.func33, Tryd.ntmps33
  go_wp2
  go_region_with (go_at_call 58; refine (clone_any (.slice A fs.length c) fs B _ ?_ ?_ hl).mono ?_; (exact HF.out.below (by go_grown) (Nat.le_refl _)); (first | omega | (simp; done) | (simp; omega)); rintro e w1 ⟨v1, rfl, hf1, hb1⟩; have R0 : Row w1 w.heap.size 67 #[.string n, .slice A fs.length c] := Eq.trans (hb1.block w.heap.size (by first | omega | (simp; done) | (simp; omega))) (Row.alloc (Row.made w _ _) _); have b0 : w1.cell? ⟨w.heap.size, 0, none⟩ = some (.string n) := (R0.cell 0).trans rfl; have b1 : w1.cell? ⟨w.heap.size, 1, none⟩ = some (.slice A fs.length c) := (R0.cell 1).trans rfl; have R1 : Row w1 (w.heap.size + 1) 67 #[.string ByteArray.empty, .slice none 0 0] := Eq.trans (hb1.block (w.heap.size + 1) (by simp)) (made_two w _ _ _); have c0 : w1.cell? ⟨w.heap.size + 1, 0, none⟩ = some (.string ByteArray.empty) := (R1.cell 0).trans rfl; have c1 : w1.cell? ⟨w.heap.size + 1, 1, none⟩ = some (.slice none 0 0) := (R1.cell 1).trans rfl; have f0 := R1.free 0; have f1 := R1.free 1; have HF1 := Lib.hid hf1; obtain ⟨A1, d1, rfl, _, _, _⟩ := hf1; have HB1 := Lib.hid hb1)
  all_goals
    go_wp2
    have e0 : (w1.setCell ⟨w.heap.size + 1, 0, none⟩ (.string n)).cell? ⟨w.heap.size + 1, 0, none⟩ = some (.string n) := World.cell?_setCell_same' _ _ _ (by rw [c0]; rfl)
    have c1' : (w1.setCell ⟨w.heap.size + 1, 0, none⟩ (.string n)).cell? ⟨w.heap.size + 1, 1, none⟩ = some (.slice none 0 0) := (World.cell?_setCell_other _ _ _ _ (by simp)).trans c1
    have e1 : ((w1.setCell ⟨w.heap.size + 1, 0, none⟩ (.string n)).setCell ⟨w.heap.size + 1, 1, none⟩ (.slice A1 fs.length d1)).cell? ⟨w.heap.size + 1, 1, none⟩ = some (.slice A1 fs.length d1) := World.cell?_setCell_same' _ _ _ (by rw [c1']; rfl)
    have hw : Below w.heap.size w w1 := by
      refine Below.trans ?_ (HB1.out.mono ?_)
      · go_grown
      · simp; omega
    try simp only [Exit.inBlock, Exit.then]
    refine bodyPost_ret (by simp [results, Tryd.results33, go_sem, e0, e1]; try rfl) rfl ?_
    refine ⟨_, rfl, HF1.out.keep (fun g hg hs => ?_), (hw.setCell (by simp) _).setCell (by simp) _⟩
    simp at hs
    exact ⟨(heap_setCell_other _ _ g _ (by simp; omega)).trans (heap_setCell_other _ _ g _ (by simp; omega)), by omega, by omega⟩
end Go.Proofs.YtookojgemipakaaDoor.Sch

/- Whether a type may be. -/
namespace Go.Proofs.YtookojgemipakaaDoor.Sch
open Go.RowKit Go.Proofs.YtookojgemipakaaDoor
set_option linter.unusedVariables false

/-- A field of a type, behind those ahead of it. -/
def OkF (fs : List Fld) (k : Nat) (h : k < fs.length) : Prop := nameB fs[k].1.data.toList = true ∧ kindB fs[k].2 = true ∧ idx ((fs.take k).map Prod.fst) fs[k].1 < 0
def MayT (t : Ty) : Prop := nameB t.1.data.toList = true ∧ t.2.length ≤ 8 ∧ ∀ k (h : k < t.2.length), OkF t.2 k h
open Classical in
noncomputable def mayB (t : Ty) : Bool := decide (MayT t)
theorem mayB_no {t : Ty} (h : ¬ MayT t) : mayB t = false := by unfold mayB; simp only [decide_eq_false_iff_not]; exact h
theorem mayB_yes {t : Ty} (h : MayT t) : mayB t = true := by unfold mayB; simp only [decide_eq_true_eq]; exact h
theorem Fs.take {w : World} {B : Nat} {A : Option Addr} {c : Nat} {fs : List Fld} (h : Fs w B (.slice A fs.length c) fs) (k : Nat) (hk : k ≤ fs.length) : Fs w B (.slice A k c) (fs.take k) := by
  obtain ⟨A', c', e, h1, h2, h3⟩ := h
  injection e with e1 e2 e3
  subst e1 e3
  have hl : (fs.take k).length = k := by rw [List.length_take]; omega
  refine ⟨A, c, by rw [hl], by omega, h2, fun j hj => ?_⟩
  obtain ⟨g, o, q1, q2, q3, q4⟩ := h3 j (by omega)
  exact ⟨g, o, q1, q2, by rw [List.getElem_take]; exact q3, by rw [List.getElem_take]; exact q4⟩
theorem kind_is (k : Int) (r : Bool) (w : World) (hr : kindB k = r) :
    Calls Tryd.prog 54 #[.int .i64 k] w fun e w' => e = .returned (.bool r) ∧ w = w' := by subst hr; exact kind_any k w
def AllF (fs : List Fld) (k : Nat) : Prop := ∀ j (h : j < fs.length), j < k → OkF fs j h
theorem below_dN {B : Nat} {w W : World} (h : Below B w W) (n : Nat) : Below B w (W.drewN n) := ⟨h.os, h.tape, h.output, h.size, h.block⟩
theorem flip2 {f : FuncId} {args : Array Value} {w : World} {v : Value} (h : Calls Tryd.prog f args w fun e w' => e = .returned v ∧ w = w') : Calls Tryd.prog f args w fun e w' => e = .returned v ∧ w' = w := h.mono fun _ _ ⟨a, b⟩ => ⟨a, b.symm⟩
set_option maxRecDepth 100000 in
set_option maxHeartbeats 2000000 in
theorem may_any (n : ByteArray) (v : Value) (fs : List Fld) (B : Nat) (w : World) (hf : Fs w B v fs) (hB : B ≤ w.heap.size) :
    Calls Tryd.prog 31 #[.agg #[.string n, v]] w fun e w' => e = .returned (.bool (mayB (n, fs))) ∧ Below w.heap.size w w' := by
  have HF := Lib.hid hf
  obtain ⟨A, c, rfl, hn, hcm, _⟩ := hf
  by_cases h1 : nameB n.data.toList = true
  · have HN := Lib.hid h1
    clear h1
    by_cases h2 : 8 < fs.length
    · go_enter Tryd.func31, Tryd.ntmps31
      go_wp2_with (go_at_call 53; refine (name_is _ true _ HN.out).mono ?_; rintro e w' ⟨rfl, rfl⟩)
      go_ret
      exact ⟨by rw [mayB_no (fun h => by have := h.2.1; simp at this; omega)]; rfl, (Below.refl _ w).alloc (Nat.le_refl _) _⟩
    · have h8 : fs.length ≤ 8 := by omega
      clear h2
      go_enter Tryd.func31, Tryd.ntmps31
      go_wp2_with (go_at_call 53; refine (name_is _ true _ HN.out).mono ?_; rintro e w' ⟨rfl, rfl⟩)
      go_loopw [18] (fun s wr => ∃ k : Nat, k ≤ fs.length ∧ s = .int .i64 k ∧ Hid (Below (w.heap.size + 1) (w.alloc (.cells #[.string n, .slice A fs.length c] 67)) wr) ∧ Hid (AllF fs k)) (fun s _ => fs.length - (intOf s).toNat)
      case atStart => exact ⟨0, by omega, rfl, Below.refl _ _, fun _ _ h => absurd h (by omega)⟩
      case round =>
        obtain ⟨k, hk, rfl, hb, ha⟩ := hrel
        have HW := Lib.hid (((Below.refl w.heap.size w).alloc (Nat.le_refl _) (.cells #[.string n, .slice A fs.length c] 67)).trans (hb.out.mono (by omega)))
        by_cases hlt : k < fs.length
        · have HFr := Lib.hid (HF.out.below (HW.out.mono hB) (Nat.le_refl _))
          obtain ⟨A', c', e1, _, _, h3⟩ := HFr.out
          injection e1 with e1 _ e3
          subst e1 e3
          obtain ⟨g, o, rfl, hg, c0, c1⟩ := h3 k hlt
          have hz : w.heap.size + 1 ≤ wr.heap.size := by have := hb.out.size; simpa using this
          have d0 : wr.cell? ⟨w.heap.size, 1, none⟩ = some (.slice (some ⟨g, o, none⟩) fs.length c) := (hb.out.cell (p := ⟨w.heap.size, 1, none⟩) (by simp)).trans (by simp)
          have hne : g ≠ wr.heap.size := by omega
          have hne2 : w.heap.size ≠ wr.heap.size := by omega
          have hkc : k ≤ c := by omega
          have hkc' : (k : Int) ≤ (c : Int) := by omega
          have hk0 : (0 : Int) ≤ (k : Int) := by omega
          clear h3
          obtain ⟨x, hx⟩ : ∃ x, x = fs[k].1 := ⟨_, rfl⟩
          obtain ⟨y, hy⟩ : ∃ y, y = fs[k].2 := ⟨_, rfl⟩
          have HOK : Hid (OkF fs k hlt ↔ nameB x.data.toList = true ∧ kindB y = true ∧ idx ((fs.take k).map Prod.fst) x < 0) := by rw [hx, hy]; exact Iff.rfl
          rw [← hx] at c0
          rw [← hy] at c1
          clear hx hy
          have HT := Lib.hid (Fs.take HFr.out k hk)
          obtain ⟨bx, hbx⟩ : ∃ b, nameB x.data.toList = b := ⟨_, rfl⟩
          obtain ⟨bk, hbk⟩ : ∃ b, kindB y = b := ⟨_, rfl⟩
          obtain ⟨r, hr⟩ : ∃ r, idx ((fs.take k).map Prod.fst) x = r := ⟨_, rfl⟩
          rw [hbx, hbk, hr] at HOK
          have HX := Lib.hid hbx
          have HK := Lib.hid hbk
          have HR := Lib.hid hr
          clear hbx hbk hr
          cases bx with
          | false =>
            go_wp2
            go_quiet ((go_at_call 53; exact Calls.quiet_of_same (flip2 (name_is _ false _ HX.out))))
            all_goals
              go_wp2
              go_ret
              exact ⟨by rw [mayB_no (fun h => by have := (HOK.out.1 (h.2.2 k hlt)).1; cases this)]; rfl, HW.out.trans (below_dN (by go_grown) _)⟩
          | true =>
            cases bk with
            | false =>
              go_wp2
              go_quiet ((first
                | (go_at_call 53; exact Calls.quiet_of_same (flip2 (name_is _ true _ HX.out)))
                | (go_at_call 54; exact Calls.quiet_of_same (flip2 (kind_is _ false _ HK.out)))))
              all_goals
                go_wp2
                go_ret
                exact ⟨by rw [mayB_no (fun h => by have := (HOK.out.1 (h.2.2 k hlt)).2.1; cases this)]; rfl, HW.out.trans (below_dN (by go_grown) _)⟩
            | true =>
              by_cases hr0 : r < 0
              · have hrd : decide (0 ≤ r) = false := by simp; omega
                go_wp2
                have d0' : (wr.alloc (.cells #[.string x, .int .i64 y] 72)).cell? ⟨w.heap.size, 1, none⟩ = some (.slice (some ⟨g, o, none⟩) fs.length c) := Lib.cell?_alloc_some _ d0
                refine wp_region_still_tail 17 (by kernel_rfl) (by kernel_rfl) ?_
                simp only [List.take_succ_cons, List.take_zero, List.drop_succ_cons, List.drop_zero]
                change wpStill _ _ (World.drew _) _ _ _
                repeat still_step
                still_call (flip2 (name_is _ true _ HX.out))
                repeat still_step
                still_call (flip2 (kind_is _ true _ HK.out))
                repeat still_step
                refine wpStill_nil ?_
                have hbW : Below wr.heap.size wr ((wr.alloc (.cells #[.string x, .int .i64 y] 72)).drew) := by go_grown
                have hsW : ((wr.alloc (.cells #[.string x, .int .i64 y] 72)).drew).heap.size = wr.heap.size + 1 := by simp
                change wpList _ _ _ _ _ (World.drew _)
                generalize (wr.alloc (.cells #[.string x, .int .i64 y] 72)).drew = wd at hbW hsW ⊢
                go_wp2_with (go_at_call 55; refine (fieldPlace_any (.slice (some ⟨g, o, none⟩) k c) (fs.take k) x B _ ?_ ?_).mono ?_; (exact HT.out.below (hbW.mono (by omega)) (Nat.le_refl _)); omega; rw [HR.out]; rintro e w2 ⟨rfl, hb2⟩)
                have HB2 : Below wr.heap.size wr w2 := hbW.trans (hb2.mono (by omega))
                go_roundw
                case rel => exact ⟨k + 1, by omega, by go_num, hb.out.trans (HB2.mono (by omega)), fun j hj h1 => by
                  by_cases e : j = k
                  · subst e; exact HOK.out.2 ⟨trivial, trivial, hr0⟩
                  · exact ha.out j hj (by omega)⟩
                case measure => simp [intOf]; omega
              · have hrp : 0 ≤ r := by omega
                go_wp2
                have d0' : (wr.alloc (.cells #[.string x, .int .i64 y] 72)).cell? ⟨w.heap.size, 1, none⟩ = some (.slice (some ⟨g, o, none⟩) fs.length c) := Lib.cell?_alloc_some _ d0
                refine wp_region_still_tail 17 (by kernel_rfl) (by kernel_rfl) ?_
                simp only [List.take_succ_cons, List.take_zero, List.drop_succ_cons, List.drop_zero]
                change wpStill _ _ (World.drew _) _ _ _
                repeat still_step
                still_call (flip2 (name_is _ true _ HX.out))
                repeat still_step
                still_call (flip2 (kind_is _ true _ HK.out))
                repeat still_step
                refine wpStill_nil ?_
                have hbW : Below wr.heap.size wr ((wr.alloc (.cells #[.string x, .int .i64 y] 72)).drew) := by go_grown
                have hsW : ((wr.alloc (.cells #[.string x, .int .i64 y] 72)).drew).heap.size = wr.heap.size + 1 := by simp
                change wpList _ _ _ _ _ (World.drew _)
                generalize (wr.alloc (.cells #[.string x, .int .i64 y] 72)).drew = wd at hbW hsW ⊢
                go_wp2_with (go_at_call 55; refine (fieldPlace_any (.slice (some ⟨g, o, none⟩) k c) (fs.take k) x B _ ?_ ?_).mono ?_; (exact HT.out.below (hbW.mono (by omega)) (Nat.le_refl _)); omega; rw [HR.out]; rintro e w2 ⟨rfl, hb2⟩)
                have HB2 : Below wr.heap.size wr w2 := hbW.trans (hb2.mono (by omega))
                go_ret
                exact ⟨by rw [mayB_no (fun h => by have := (HOK.out.1 (h.2.2 k hlt)).2.2; omega)]; rfl, HW.out.trans (HB2.mono (by omega))⟩
        · have hk' : k = fs.length := by omega
          subst hk'
          clear hlt
          go_wp2
          go_ret
          exact ⟨by rw [mayB_yes ⟨HN.out, h8, fun j hj => ha.out j hj hj⟩]; rfl, HW.out⟩
  · have h1' : nameB n.data.toList = false := by simpa using h1
    have HN := Lib.hid h1'
    clear h1'
    go_enter Tryd.func31, Tryd.ntmps31
    go_wp2_with (go_at_call 53; refine (name_is _ false _ HN.out).mono ?_; rintro e w' ⟨rfl, rfl⟩)
    go_ret
    exact ⟨by rw [mayB_no (fun h => h1 h.1)]; rfl, (Below.refl _ w).alloc (Nat.le_refl _) _⟩
end Go.Proofs.YtookojgemipakaaDoor.Sch

/- A schema made of types. -/
namespace Go.Proofs.YtookojgemipakaaDoor.Sch
open Go.RowKit Go.Proofs.YtookojgemipakaaDoor
set_option linter.unusedVariables false

section
variable {P : Program} {w w' : World} {e : TypeId}
theorem step_append_seg {ops : Array Oper} {o : Oper} {a : Act} {K : Act → World → Prop} {Q : Exit → Act → World → Prop} {E : Prop} (w : World) (hgd : o.guard = none) (s x : Operand) (t : TypeId)
    (hop : o.op = .call { callee := .builtin .append, args := #[s, x], argTypes := #[t, t] })
    (e : TypeId) (i : TypeInfo) (z : Value) (size bytes : Nat) (ht : P.underlying t = some (.slice e)) (hi : P.info? e = some i) (hz : i.zero = some z)
    (hsize : i.size = size) (hby : i.bytes = bytes) (hzs : z.cells.size = size) (hsz : 0 < size) (v : Value) (n : Nat) (xs : List Value) (ob : Option Nat) (hs : a.eval s = v) (h : Seg w e size v n xs ob)
    (ad : Addr) (m c : Nat) (news : List Value) (hx : a.eval x = .slice (some ad) m c) (hl : news.length = m * size) (hnews : ∀ j u, news[j]? = some u → w.cell? (ad.add j) = some u) (h1 : ∀ u ∈ news, u.oneCell' = true) (hm : 0 < m)
    (h63 : n + m ≤ maxLen) (hbytes : (n + m) * bytes ≤ 140737488355328)
    (hK : ∀ v' w' ob', Seg w' e size v' (n + m) (xs ++ news) ob' → Turns w w' (fun k => ob = some k) → (ob' = ob ∨ ∃ g, ob' = some g ∧ w.heap.size ≤ g) → K (a.put o.dst v') w') :
    if Region.wanted o (yielded ops a.tmps) = true then Oper.wp P o a w K Q else E := by
  rw [if_pos (by simp [Region.wanted, hgd])]
  obtain ⟨v', w', ob', hrun, r1, r2, r3⟩ := run_append_seg (P := P) t o.type i z bytes ht hi hz hsize hby hzs hsz h ad m c news hl hnews h1 hm h63 hbytes
  unfold Oper.wp
  simp [execOp, hop, resolve, invoke, builtin, hs, hx, hrun, Result.andThen]
  exact hK v' w' ob' r1 r2 r3
end
/-- All types so far may be, and have names of their own. -/
def OkT (ts : List Ty) (k : Nat) (h : k < ts.length) : Prop := MayT ts[k] ∧ idx ((ts.take k).map Prod.fst) ts[k].1 < 0
def Fine (ts : List Ty) (k : Nat) : Prop := ∀ j (h : j < ts.length), j < k → OkT ts j h
/-- What is told of types first. -/
def NewR (ts : List Ty) (c : Int) : Prop :=
  (16 < ts.length ∧ c = 5) ∨ (ts.length ≤ 16 ∧ ∃ k, ∃ h : k < ts.length, Fine ts k ∧ ¬ MayT ts[k] ∧ c = 1) ∨ (ts.length ≤ 16 ∧ ∃ k, ∃ h : k < ts.length, Fine ts k ∧ MayT ts[k] ∧ 0 ≤ idx ((ts.take k).map Prod.fst) ts[k].1 ∧ c = 4) ∨ (ts.length ≤ 16 ∧ Fine ts ts.length ∧ c = 0)
structure NI (w wr : World) (ts : List Ty) (k : Nat) (v : Value) (ob : Option Nat) (xs : List Value) : Prop where
  row : Row wr w.heap.size 64 #[v]
  seg : Seg wr 67 2 v k xs ob
  hob : ∀ g, ob = some g → w.heap.size < g
  be : Below w.heap.size w wr
  fs : ∀ j (hj : j < ts.length), j < k → ∃ fv, xs[j * 2]? = some (.string ts[j].1) ∧ xs[j * 2 + 1]? = some fv ∧ FsS wr (fun g => w.heap.size < g ∧ ob ≠ some g) fv ts[j].2
theorem NI.mono {w wr wr' : World} {ts : List Ty} {k : Nat} {v : Value} {ob : Option Nat} {xs : List Value} (h : NI w wr ts k v ob xs) (hb : Below wr.heap.size wr wr') : NI w wr' ts k v ob xs :=
  ⟨Row.below h.row hb h.row.lt, h.seg.keep fun g hg => hb.block g (h.seg.lt g hg), h.hob, h.be.trans (hb.mono h.be.size), fun j hj hk => by
    obtain ⟨fv, a, b, c⟩ := h.fs j hj hk
    exact ⟨fv, a, b, c.keep fun g hg hs => ⟨hb.block g hg, hs⟩⟩⟩
theorem NI.push {w W W2 : World} {ts : List Ty} {k : Nat} {v v2 v' : Value} {ob ob2 : Option Nat} {xs : List Value} (h : NI w W ts k v ob xs) (hk : k < ts.length)
    (hs2 : Seg W2 67 2 v2 (k + 1) (xs ++ [.string ts[k].1, v']) ob2) (ht2 : Turns W W2 (fun g => ob = some g)) (ho2 : ob2 = ob ∨ ∃ g, ob2 = some g ∧ W.heap.size ≤ g)
    (hv : FsS W (fun g => w.heap.size < g ∧ ob ≠ some g) v' ts[k].2) : NI w (W2.setCell ⟨w.heap.size, 0, none⟩ v2) ts (k + 1) v2 ob2 (xs ++ [.string ts[k].1, v']) := by
  have hlt := h.row.lt
  have hne : ob ≠ some w.heap.size := fun e => by have := h.hob _ e; omega
  have hob2 : ∀ g, ob2 = some g → w.heap.size < g := fun g hg => by
    rcases ho2 with e | ⟨g', e, hg'⟩
    · exact h.hob g (by rw [← e, hg])
    · rw [e] at hg; injection hg with hg; omega
  have keep : ∀ g, g < W.heap.size → (w.heap.size < g ∧ ob ≠ some g) → (W2.setCell ⟨w.heap.size, 0, none⟩ v2).heap[g]? = W.heap[g]? ∧ (w.heap.size < g ∧ ob2 ≠ some g) := fun g hg hs =>
    ⟨(heap_setCell_other _ _ g _ (by simp; omega)).trans (ht2.block g hg (fun e => hs.2 e)), hs.1, by
      rcases ho2 with e | ⟨g', e, hg'⟩
      · rw [e]; exact hs.2
      · rw [e]; intro e'; injection e' with e'; omega⟩
  have hxl : xs.length = k * 2 := h.seg.1
  refine ⟨by simpa using Row.put (h.row.turns ht2 hne) 0 v2, hs2.past (fun e => by have := hob2 _ e; simp at this) _, hob2, (ht2.below h.be h.be.size (fun j hj e => by have := h.hob _ e; omega)).setCell (Nat.le_refl _) _, fun j hj hk' => ?_⟩
  by_cases e : j = k
  · subst e
    refine ⟨v', ?_, ?_, hv.keep keep⟩
    · rw [List.getElem?_append_right (by omega)]; simp [hxl]
    · rw [List.getElem?_append_right (by omega)]; simp [hxl]
  · obtain ⟨fv, a, b, c⟩ := h.fs j hj (by omega)
    refine ⟨fv, ?_, ?_, c.keep keep⟩
    · rw [List.getElem?_append_left (by omega)]; exact a
    · rw [List.getElem?_append_left (by omega)]; exact b
theorem sc_of_NI {w wr : World} {ts : List Ty} {k : Nat} {v : Value} {ob : Option Nat} {xs : List Value} (h : NI w wr ts k v ob xs) (hk : k ≤ ts.length) : Sc wr wr.heap.size (some ⟨w.heap.size, 0, none⟩) (ts.take k) := by
  have hl : (ts.take k).length = k := by rw [List.length_take]; omega
  refine ⟨w.heap.size, v, rfl, h.row.lt, (h.row.cell 0).trans rfl, ?_⟩
  rcases Nat.eq_zero_or_pos k with h0 | h0
  · obtain ⟨A, c, rfl, h1, h2⟩ := h.seg.form
    exact ⟨A, c, by rw [hl], by omega, by unfold maxLen at h2; omega, fun j hj => by omega⟩
  · obtain ⟨g, o, cap, rfl, ho, h1, h2, h3, _⟩ := h.seg.shape h0
    refine ⟨_, cap, by rw [hl], by omega, by unfold maxLen at h2; omega, fun j hj => ?_⟩
    obtain ⟨fv, a, b, c⟩ := h.fs j (by omega) (by omega)
    refine ⟨g, o, fv, rfl, h.seg.lt g ho, ?_, ?_, ?_⟩
    · rw [List.getElem_take]; exact h3 _ _ a
    · exact h3 _ _ b
    · rw [List.getElem_take]; exact c.keep fun g hg _ => ⟨rfl, hg⟩
theorem two_news (w : World) (t : TypeId) (a b : Value) : ∀ j u, [a, b][j]? = some u → (w.alloc (.cells #[a, b] t)).cell? ((⟨w.heap.size, 0, none⟩ : Addr).add j) = some u := by
  intro j u hj
  match j, hj with
  | 0, hj => simp at hj; subst hj; simp [Addr.add]
  | 1, hj => simp at hj; subst hj; simp [Addr.add]
theorem MayT.len {t : Ty} {fl : List Fld} (h : MayT t) (e : fl = t.2) : fl.length ≤ 8 := by rw [e]; exact h.2.1
theorem type_info : (Tryd.prog.info? 67).map (fun i => (i.zero, i.size, i.bytes)) = some (some (.agg #[.string ByteArray.empty, .slice none 0 0]), 2, 40) := by kernel_rfl
def NewPost (w : World) (ts : List Ty) (e : Ending) (w' : World) : Prop :=
  ∃ p c, e = .returned (.tuple #[.pointer p, .int .i64 c]) ∧ NewR ts c ∧ (c = 0 → Sc w' w'.heap.size p ts) ∧ (c ≠ 0 → p = none) ∧ Below w.heap.size w w'
theorem may_is (n : ByteArray) (v : Value) (fs : List Fld) (B : Nat) (w : World) (r : Bool) (hr : mayB (n, fs) = r) (hf : Fs w B v fs) (hB : B ≤ w.heap.size) :
    Calls Tryd.prog 31 #[.agg #[.string n, v]] w fun e w' => e = .returned (.bool r) ∧ Below w.heap.size w w' := by subst hr; exact may_any n v fs B w hf hB
theorem place_is (p : Option Addr) (ts : List Ty) (nm : ByteArray) (B : Nat) (w : World) (r : Int) (hr : idx (ts.map Prod.fst) nm = r) (hs : Sc w B p ts) (hB : B ≤ w.heap.size) :
    Calls Tryd.prog 32 #[.pointer p, .string nm] w fun e w' => e = .returned (.int .i64 r) ∧ Below w.heap.size w w' := by subst hr; exact place_any p ts nm B w hs hB
set_option maxRecDepth 100000 in
set_option maxHeartbeats 2000000 in
theorem new_any (vl : Value) (ts : List Ty) (B : Nat) (w : World) (hts : Ts w B vl ts) (hB : B ≤ w.heap.size) :
    Calls Tryd.prog 7 #[vl] w (NewPost w ts) := by
  have HT := Lib.hid hts
  obtain ⟨A, c, rfl, hn, hcm, _⟩ := hts
  by_cases h16 : 16 < ts.length
  · go_enter Tryd.func7, Tryd.ntmps7
    go_wp2
    go_ret2
    exact ⟨none, 5, rfl, .inl ⟨h16, rfl⟩, by simp, fun _ => rfl, Below.refl _ _⟩
  have hle : ts.length ≤ 16 := by omega
  clear h16
  obtain ⟨i0, hi0, hz0, hz1, hz2⟩ := info_parts type_info
  go_enter Tryd.func7, Tryd.ntmps7
  go_wp2
  go_loopw [14] (fun s wr => ∃ k : Nat, k ≤ ts.length ∧ s = .int .i64 k ∧ Hid (∃ v ob xs, NI w wr ts k v ob xs) ∧ Hid (Fine ts k)) (fun s _ => ts.length - (intOf s).toNat)
  case atStart => exact ⟨0, by omega, rfl, ⟨.slice none 0 0, none, [], Row.made w _ _, seg_zero _ _ _ _, (fun _ e => by cases e), (Below.refl _ w).alloc (Nat.le_refl _) _, fun _ _ h => absurd h (by omega)⟩, fun _ _ h => absurd h (by omega)⟩
  case round =>
    obtain ⟨k, hk, rfl, hni, hfine⟩ := hrel
    obtain ⟨v, ob, xs, hNI⟩ := hni.out
    have HN := Lib.hid hNI
    by_cases hlt : k < ts.length
    · obtain ⟨A', c', e1, _, _, h3⟩ := HT.out.below (hNI.be.mono hB) (Nat.le_refl _)
      injection e1 with e1 _ e3
      subst e1 e3
      obtain ⟨g, o, fv, rfl, hg, c0, c1, hf⟩ := h3 k hlt
      obtain ⟨x, hx⟩ : ∃ x, x = ts[k].1 := ⟨_, rfl⟩
      obtain ⟨fl, hfl⟩ : ∃ fl, fl = ts[k].2 := ⟨_, rfl⟩
      have HX := Lib.hid hx
      have HFL := Lib.hid hfl
      have hMT : MayT ts[k] ↔ mayB (x, fl) = true := by rw [hx, hfl]; unfold mayB; simp only [decide_eq_true_eq]
      have HMT := Lib.hid hMT
      rw [← hx] at c0
      rw [← hfl] at hf
      have HFv := Lib.hid hf
      have hwz : w.heap.size < wr.heap.size := hNI.row.lt
      obtain ⟨A2, c2, rfl, hn2, hcm2, _⟩ := hf
      have hBz : B ≤ wr.heap.size := by omega
      obtain ⟨bm, hbm⟩ : ∃ b, mayB (x, fl) = b := ⟨_, rfl⟩
      obtain ⟨r, hr⟩ : ∃ r, idx ((ts.take k).map Prod.fst) x = r := ⟨_, rfl⟩
      have HBM := Lib.hid hbm
      have HR := Lib.hid hr
      have HBE := Lib.hid hNI.be
      clear h3 hNI hni hMT hx hfl hbm hr
      cases bm with
      | false =>
        go_wp2_with (go_at_call 31; refine (may_is x (.slice A2 fl.length c2) fl B _ false HBM.out ?_ ?_).mono ?_; (exact HFv.out.below (by go_grown) (Nat.le_refl _)); (first | omega | (simp; omega)); rintro e w1 ⟨rfl, hb1⟩)
        go_ret2
        exact ⟨none, 1, rfl, .inr (.inl ⟨hle, k, hlt, hfine.out, (fun h => by have := HMT.out.1 h; rw [HBM.out] at this; cases this), rfl⟩), by simp, fun _ => rfl, HBE.out.trans ((show Below w.heap.size wr _ from by go_grown).trans (hb1.mono (by simp; omega)))⟩
      | true =>
        go_wp2_with fail
        refine (may_is x (.slice A2 fl.length c2) fl B _ true HBM.out (HFv.out.below (by go_grown) (Nat.le_refl _)) (by simp; omega)).mono ?_
        rintro e w1 ⟨rfl, hb1⟩
        have hr1 : Row w1 wr.heap.size 67 #[.string x, .slice A2 fl.length c2] := Row.below (Row.made wr _ _) hb1 (by simp)
        have hw1 : Below wr.heap.size wr w1 := ((Below.refl _ wr).alloc (Nat.le_refl _) _).trans (hb1.mono (by simp))
        have d0 : w1.cell? ⟨wr.heap.size, 0, none⟩ = some (.string x) := (hr1.cell 0).trans rfl
        have z1 : wr.heap.size + 1 ≤ w1.heap.size := by have := hb1.size; simpa using this
        have HR1 := Lib.hid hr1
        have HW1 := Lib.hid hw1
        clear hb1 hr1 hw1 c0 c1
        go_wp2_with fail
        refine (place_is (some ⟨w.heap.size, 0, none⟩) (ts.take k) x _ _ r HR.out (sc_of_NI (HN.out.mono HW1.out) hk) (Nat.le_refl _)).mono ?_
        rintro e w2 ⟨rfl, hb2⟩
        clear d0
        by_cases hr0 : 0 ≤ r
        · go_wp2
          go_ret2
          exact ⟨none, 4, rfl, .inr (.inr (.inl ⟨hle, k, hlt, hfine.out, HMT.out.2 HBM.out, by rw [← HX.out, HR.out]; exact hr0, rfl⟩)), by simp, fun _ => rfl, HBE.out.trans ((HW1.out.mono (by omega)).trans (hb2.mono (by omega)))⟩
        · have hrd : decide (0 ≤ r) = false := by simp; omega
          have hN2 : NI w w2 ts k v ob xs := HN.out.mono (HW1.out.trans (hb2.mono (by omega)))
          have hr2 : Row w2 wr.heap.size 67 #[.string x, .slice A2 fl.length c2] := Row.below HR1.out hb2 (by omega)
          have z2 : wr.heap.size + 1 ≤ w2.heap.size := Nat.le_trans z1 hb2.size
          have hF2 : Fs w2 B (.slice A2 fl.length c2) fl := HFv.out.below ((HW1.out.mono hBz).trans (hb2.mono (by omega))) (Nat.le_refl _)
          have e0 : w2.cell? ⟨wr.heap.size, 0, none⟩ = some (.string x) := (hr2.cell 0).trans rfl
          have e1 : w2.cell? ⟨wr.heap.size, 1, none⟩ = some (.slice A2 fl.length c2) := (hr2.cell 1).trans rfl
          have e2 : w2.cell? ⟨w.heap.size, 0, none⟩ = some v := (hN2.row.cell 0).trans rfl
          have HN2 := Lib.hid hN2
          have HF2 := Lib.hid hF2
          have HR0 := Lib.hid hr0
          clear hb2 hN2 hr2 hF2 hr0
          go_wp2
          go_region_law (first
            | (
                refine step_append_seg _ rfl (.tmp 30) (.tmp 33) 29 rfl 67 i0 _ 2 40 Tryd.underlying29 hi0 hz0 hz1 hz2 rfl (by decide) _ k xs ob rfl (Seg.alloc HN3.out.seg _) ⟨w3.heap.size, 0, none⟩ 1 1 [.string x, .slice A3 fl.length c3] rfl rfl (two_news _ _ _ _) (by simp [Value.oneCell']) (by omega) (by unfold maxLen; omega) (by omega) ?_
                intro v4 w4 ob4 hs4 ht4 ho4
                have HS4 := Lib.hid hs4
                obtain ⟨A4, c4, rfl, _, _⟩ := hs4.form
                have r4 : Row w4 w.heap.size 64 #[v] := Row.turns (Row.alloc HN3.out.row _) ht4 (fun e => by have := HN3.out.hob _ e; omega)
                have g0 : w4.cell? ⟨w.heap.size, 0, none⟩ = some v := (r4.cell 0).trans rfl
                have g1 : w4.frozen? ⟨w.heap.size, 0, none⟩ = false := r4.free 0)
            | (
                go_simp
                go_at_call 33
                refine (twin_any x (.slice A2 fl.length c2) fl B _ ?_ ?_ ?_).mono ?_
                exact HF2.out.below (by go_grown) (Nat.le_refl _)
                (first | omega | (simp; omega))
                (have h8 := MayT.len (HMT.out.2 HBM.out) HFL.out; omega)
                rintro e w3 ⟨v3, rfl, hf3, hb3⟩
                have HF3 := Lib.hid hf3
                obtain ⟨A3, c3, rfl, _, _, _⟩ := hf3
                have hN3 : NI w w3 ts k v ob xs := HN2.out.mono (Below.trans (by go_grown) hb3)
                have HN3 := Lib.hid hN3
                have HB3 := Lib.hid hb3
                have k0 : w3.cell? ⟨w.heap.size, 0, none⟩ = some v := (hN3.row.cell 0).trans rfl
                have k1 : (w3.alloc (.cells #[.string x, .slice A3 fl.length c3] 67)).cell? ⟨w.heap.size, 0, none⟩ = some v := Lib.cell?_alloc_some _ k0
                clear hN3 hb3))
          all_goals
            go_wp2
            have hW : NI w (w3.alloc (.cells #[.string x, .slice A3 fl.length c3] 67)) ts k v ob xs := HN3.out.mono (by go_grown)
            have hV : FsS (w3.alloc (.cells #[.string x, .slice A3 fl.length c3] 67)) (fun g => w.heap.size < g ∧ ob ≠ some g) (.slice A3 fl.length c3) ts[k].2 := by
              rw [← HFL.out]
              exact HF3.out.keep fun g hg hs => ⟨Below.heap_alloc _ _ g hg, by have h : w2.heap.size ≤ g := hs.1; omega, fun e => by have h := HN2.out.seg.lt g e; have h' : w2.heap.size ≤ g := hs.1; omega⟩
            have hP := hW.push hlt (by rw [← HX.out]; exact HS4.out) ht4 ho4 hV
            go_roundw
            case rel => exact ⟨k + 1, by omega, by go_num, ⟨_, _, _, hP⟩, fun j hj h1 => by
              by_cases e : j = k
              · subst e; exact ⟨HMT.out.2 HBM.out, by rw [← HX.out, HR.out]; have := HR0.out; omega⟩
              · exact hfine.out j hj (by omega)⟩
            case measure => simp [intOf]; omega
    · have hk' : k = ts.length := by omega
      subst hk'
      clear hlt
      go_wp2
      go_ret2
      exact ⟨_, 0, rfl, .inr (.inr (.inr ⟨hle, hfine.out, rfl⟩)), fun _ => by have := sc_of_NI HN.out (Nat.le_refl _); rwa [List.take_length] at this, by simp, HN.out.be⟩
end Go.Proofs.YtookojgemipakaaDoor.Sch

/- Three types, and the law's first look at a schema. -/
namespace Go.Proofs.YtookojgemipakaaDoor.Sch
open Go.RowKit Go.Proofs.YtookojgemipakaaDoor
set_option linter.unusedVariables false

def idxD (l : List ByteArray) (nm : ByteArray) : Int := match l.findIdx? (fun x => x.data.toList == nm.data.toList) with
  | some k => k
  | none => -1
theorem idx_data (l : List ByteArray) (nm : ByteArray) : idx l nm = idxD l nm := by
  unfold idx idxD
  simp only [toList_data]
  try rfl
def sx : ByteArray := ⟨#[120]⟩
def ss : ByteArray := ⟨#[115]⟩
def sb : ByteArray := ⟨#[98]⟩
def typesL : List Ty := [(⟨#[65]⟩, [(sx, 1), (ss, 2)]), (⟨#[66]⟩, [(sx, 1), (ss, 2)]), (⟨#[67]⟩, [(ss, 2), (sx, 1), (sb, 3)])]
theorem neg1 : (-1 : Int) < 0 := by decide
theorem le8 {n : Nat} (h : Nat.ble n 8 = true) : n ≤ 8 := Nat.le_of_ble_eq_true h
theorem typesL_may : ∀ k (h : k < typesL.length), MayT typesL[k]
  | 0, _ => ⟨rfl, le8 rfl, fun
    | 0, _ => ⟨rfl, rfl, by rw [idx_data]; exact neg1⟩
    | 1, _ => ⟨rfl, rfl, by rw [idx_data]; exact neg1⟩
    | k + 2, h => absurd (show k + 2 < 2 from h) (by omega)⟩
  | 1, _ => ⟨rfl, le8 rfl, fun
    | 0, _ => ⟨rfl, rfl, by rw [idx_data]; exact neg1⟩
    | 1, _ => ⟨rfl, rfl, by rw [idx_data]; exact neg1⟩
    | k + 2, h => absurd (show k + 2 < 2 from h) (by omega)⟩
  | 2, _ => ⟨rfl, le8 rfl, fun
    | 0, _ => ⟨rfl, rfl, by rw [idx_data]; exact neg1⟩
    | 1, _ => ⟨rfl, rfl, by rw [idx_data]; exact neg1⟩
    | 2, _ => ⟨rfl, rfl, by rw [idx_data]; exact neg1⟩
    | k + 3, h => absurd (show k + 3 < 3 from h) (by omega)⟩
  | k + 3, h => absurd (show k + 3 < 3 from h) (by omega)
theorem typesL_names : ∀ k (h : k < typesL.length), idx ((typesL.take k).map Prod.fst) typesL[k].1 < 0
  | 0, _ => by rw [idx_data]; exact neg1
  | 1, _ => by rw [idx_data]; exact neg1
  | 2, _ => by rw [idx_data]; exact neg1
  | k + 3, h => absurd (show k + 3 < 3 from h) (by omega)
theorem typesL_ok {c : Int} (h : NewR typesL c) : c = 0 := by
  rcases h with ⟨h, _⟩ | ⟨_, k, hk, _, h, _⟩ | ⟨_, k, hk, _, _, h, _⟩ | ⟨_, _, h⟩
  · simp [typesL] at h
  · exact absurd (typesL_may k hk) h
  · have := typesL_names k hk; omega
  · exact h
theorem row_at {w : World} {n : Nat} (h : w.heap.size = n) (t : TypeId) (cs : Array Value) : Row (w.alloc (.cells cs t)) n t cs := h ▸ Row.made w t cs
theorem fs_of_row {w : World} {g B n : Nat} {t : TypeId} {cs : Array Value} (fs : List Fld) (h : Row w g t cs) (he : cs = (cellsF fs).toArray) (hn : fs.length = n) (hm : n ≤ 100) (hB : g < B) : Fs w B (.slice (some ⟨g, 0, none⟩) n n) fs := by
  subst hn he
  refine ⟨_, _, rfl, Nat.le_refl _, by omega, fun k hk => ⟨g, 0, rfl, hB, ?_, ?_⟩⟩
  · rw [Nat.zero_add, h.cell]; simpa using (cellsF_get fs k hk).1
  · rw [Nat.zero_add, h.cell]; simpa using (cellsF_get fs k hk).2
set_option maxRecDepth 100000 in
set_option maxHeartbeats 1600000 in
theorem types_any (w : World) :
    Calls Tryd.prog 8 #[] w fun e w' => ∃ v, e = .returned v ∧ Ts w' w'.heap.size v typesL ∧ Below w.heap.size w w' := by
  go_enter Tryd.func8, Tryd.ntmps8
  go_wp2
  go_ret
  refine ⟨.slice (some ⟨w.heap.size + 1 + 1 + 1 + 1 + 1 + 1, 0, none⟩) 3 3, rfl, ⟨_, 3, rfl, Nat.le_refl 3, by omega, fun k h => ?_⟩, by go_grown⟩
  have r6 := row_at (w := ((((((w.alloc (.cells #[.string ⟨#[120]⟩, .int .i64 1] 72)).alloc (.cells #[.string ⟨#[115]⟩, .int .i64 2] 72)).alloc (.cells #[.string ⟨#[98]⟩, .int .i64 3] 72)).alloc
      (.cells #[.string ⟨#[120]⟩, .int .i64 1, .string ⟨#[115]⟩, .int .i64 2] 72)).alloc (.cells #[.string ⟨#[120]⟩, .int .i64 1, .string ⟨#[115]⟩, .int .i64 2] 72)).alloc (.cells #[.string ⟨#[115]⟩, .int .i64 2, .string ⟨#[120]⟩, .int .i64 1, .string ⟨#[98]⟩, .int .i64 3] 72)))
      (n := w.heap.size + 1 + 1 + 1 + 1 + 1 + 1) (by simp) 67 #[.string ⟨#[65]⟩, .slice (some ⟨w.heap.size + 1 + 1 + 1, 0, none⟩) 2 2, .string ⟨#[66]⟩, .slice (some ⟨w.heap.size + 1 + 1 + 1 + 1, 0, none⟩) 2 2, .string ⟨#[67]⟩, .slice (some ⟨w.heap.size + 1 + 1 + 1 + 1 + 1, 0, none⟩) 3 3]
  match k, h with
  | 0, _ => exact ⟨_, 0, _, rfl, by simp, (r6.cell 0).trans rfl, (r6.cell 1).trans rfl, fs_of_row _ (Row.alloc (Row.alloc (Row.alloc (row_at (by simp) _ _) _) _) _) rfl rfl (by omega) (by simp)⟩
  | 1, _ => exact ⟨_, 0, _, rfl, by simp, (r6.cell 2).trans rfl, (r6.cell 3).trans rfl, fs_of_row _ (Row.alloc (Row.alloc (row_at (by simp) _ _) _) _) rfl rfl (by omega) (by simp)⟩
  | 2, _ => exact ⟨_, 0, _, rfl, by simp, (r6.cell 4).trans rfl, (r6.cell 5).trans rfl, fs_of_row _ (Row.alloc (row_at (by simp) _ _) _) rfl rfl (by omega) (by simp)⟩
  | k + 3, h => exact absurd (show k + 3 < 3 from h) (by omega)
theorem name_true : nameB (⟨#[116, 114, 117, 101]⟩ : ByteArray).data.toList = false := rfl
theorem name_a1 : nameB (⟨#[97, 49]⟩ : ByteArray).data.toList = true := rfl
theorem idx_C : idx (typesL.map Prod.fst) ⟨#[67]⟩ = (2 : Nat) := by rw [idx_data]; rfl
theorem idx_x : idx (([(ss, 2), (sx, 1), (sb, 3)] : List Fld).map Prod.fst) ⟨#[120]⟩ = (1 : Nat) := by rw [idx_data]; rfl
end Go.Proofs.YtookojgemipakaaDoor.Sch

/- Types that came in, opened; a list of types that is made. -/
namespace Go.Proofs.YtookojgemipakaaDoor.Sch
open Go.RowKit Go.Proofs.YtookojgemipakaaDoor Go.ChangeShapes Go.WideShapes
set_option linter.unusedVariables false
set_option maxRecDepth 100000
section
variable {H : Type} {enc : TypeId × Value → H} {w : World} {spare : Nat → Bool} {held : Bool} {fuel : Nat} {cs : List Value} {x : DataW H × List MemPlace}
theorem open_field (h : DataW.trod enc Tryd.prog w 0 spare held fuel 72 cs = some x) : ∃ f : Fld, cs = [.string f.1, .int .i64 f.2] ∧ f.1.size ≤ 9223372036854775807 := by
  obtain ⟨a, b, rfl⟩ : ∃ a b, cs = [a, b] := by
    have := trod_struct_len (n := 2) (by kernel_rfl) (by kernel_rfl) h
    match cs, this with
    | [a, b], _ => exact ⟨a, b, rfl⟩
  obtain ⟨_, _, h0⟩ := trod_field (ft := 9) 0 (off := 0) (by kernel_rfl) h
  obtain ⟨_, _, h1⟩ := trod_field (ft := 3) 1 (off := 1) (by kernel_rfl) h
  rw [show Tryd.prog.cellsOf 9 = 1 by kernel_rfl] at h0
  rw [show Tryd.prog.cellsOf 3 = 1 by kernel_rfl] at h1
  obtain ⟨s, rfl, hs⟩ := one_str Tryd.underlying9 h0
  obtain ⟨k, rfl, _⟩ := one_int Tryd.underlying3 h1
  exact ⟨(s, k), rfl, hs⟩
/-- Names that are not too long for this machine. -/
def Short (t : Ty) : Prop := t.1.size ≤ 9223372036854775807 ∧ ∀ f ∈ t.2, f.1.size ≤ 9223372036854775807
theorem open_type (h : DataW.trod enc Tryd.prog w 0 spare held fuel 67 cs = some x) : ∃ (t : Ty) (fv : Value), cs = [.string t.1, fv] ∧ Fs w w.heap.size fv t.2 ∧ Short t := by
  obtain ⟨a, b, rfl⟩ : ∃ a b, cs = [a, b] := by
    have := trod_struct_len (n := 2) (by kernel_rfl) (by kernel_rfl) h
    match cs, this with
    | [a, b], _ => exact ⟨a, b, rfl⟩
  obtain ⟨_, _, h0⟩ := trod_field (ft := 9) 0 (off := 0) (by kernel_rfl) h
  obtain ⟨_, _, h1⟩ := trod_field (ft := 65) 1 (off := 1) (by kernel_rfl) h
  rw [show Tryd.prog.cellsOf 9 = 1 by kernel_rfl] at h0
  rw [show Tryd.prog.cellsOf 65 = 1 by kernel_rfl] at h1
  obtain ⟨s, rfl, hs⟩ := one_str Tryd.underlying9 h0
  obtain ⟨A, n, c, h2, h3, h4, hk⟩ := one_slice (e := 72) Tryd.underlying65 (by rw [show Tryd.prog.cellsOf 72 = 2 by kernel_rfl]; omega) h1
  rw [show Tryd.prog.cellsOf 72 = 2 by kernel_rfl] at hk
  have each : ∀ k, k < n → ∃ f : Fld, (∃ g o, A = some ⟨g, o, none⟩ ∧ g < w.heap.size ∧ w.cell? ⟨g, o + k * 2, none⟩ = some (.string f.1) ∧ w.cell? ⟨g, o + k * 2 + 1, none⟩ = some (.int .i64 f.2)) ∧ f.1.size ≤ 9223372036854775807 := fun k hkn => by
    obtain ⟨g, o, es, m, y, hA, hg, hl, hc, ht⟩ := hk k hkn
    obtain ⟨f, rfl, hf⟩ := open_field ht
    exact ⟨f, ⟨g, o, hA, hg, hc 0 _ rfl, hc 1 _ rfl⟩, hf⟩
  obtain ⟨F, hF⟩ : ∃ F : Nat → Fld, ∀ k, k < n → (∃ g o, A = some ⟨g, o, none⟩ ∧ g < w.heap.size ∧ w.cell? ⟨g, o + k * 2, none⟩ = some (.string (F k).1) ∧ w.cell? ⟨g, o + k * 2 + 1, none⟩ = some (.int .i64 (F k).2)) ∧ (F k).1.size ≤ 9223372036854775807 :=
    ⟨fun k => if h : k < n then Classical.choose (each k h) else (ByteArray.empty, 0), fun k hkn => by simp only [dif_pos hkn]; exact Classical.choose_spec (each k hkn)⟩
  refine ⟨(s, (List.range n).map F), b, rfl, ⟨A, c, ?_, by simpa using h3, h4, fun k hk' => ?_⟩, hs, fun f hf => ?_⟩
  · simpa using h2
  · have hkn : k < n := by simpa using hk'
    obtain ⟨⟨g, o, h5, h6, h7, h8⟩, _⟩ := hF k hkn
    exact ⟨g, o, h5, h6, by simpa using h7, by simpa using h8⟩
  · obtain ⟨k, hkr, rfl⟩ := List.mem_map.1 hf
    exact (hF k (by simpa using hkr)).2
theorem open_types_arg {base : Nat} {v : Value} {d : DataW H} {p : List MemPlace} (hv : Value.okWide Tryd.prog w .any base 29 v) (h : DataW.Trod enc Tryd.prog w 0 (fun _ => true) true 29 v d p) :
    ∃ A n c ts, v = .slice A n c ∧ ts.length = n ∧ Ts w w.heap.size (.slice A n c) ts ∧ ∀ t ∈ ts, Short t := by
  obtain ⟨a, l, c, rfl⟩ := okWide_slice Tryd.underlying29 hv
  obtain ⟨fuel, hf⟩ := h
  obtain ⟨A, n, cc, he, h1, h2, hk⟩ := one_slice (e := 67) Tryd.underlying29 (by rw [show Tryd.prog.cellsOf 67 = 2 by kernel_rfl]; omega) (by simpa [Value.cells] using hf)
  rw [show Tryd.prog.cellsOf 67 = 2 by kernel_rfl] at hk
  have each : ∀ k, k < n → ∃ t : Ty, (∃ g o fv, A = some ⟨g, o, none⟩ ∧ g < w.heap.size ∧ w.cell? ⟨g, o + k * 2, none⟩ = some (.string t.1) ∧ w.cell? ⟨g, o + k * 2 + 1, none⟩ = some fv ∧ Fs w w.heap.size fv t.2) ∧ Short t := fun k hkn => by
    obtain ⟨g, o, es, m, y, hA, hg, hl, hc, ht⟩ := hk k hkn
    obtain ⟨t, fv, rfl, ho, hs⟩ := open_type ht
    exact ⟨t, ⟨g, o, fv, hA, hg, hc 0 _ rfl, hc 1 _ rfl, ho⟩, hs⟩
  obtain ⟨F, hF⟩ : ∃ F : Nat → Ty, ∀ k, k < n → (∃ g o fv, A = some ⟨g, o, none⟩ ∧ g < w.heap.size ∧ w.cell? ⟨g, o + k * 2, none⟩ = some (.string (F k).1) ∧ w.cell? ⟨g, o + k * 2 + 1, none⟩ = some fv ∧ Fs w w.heap.size fv (F k).2) ∧ Short (F k) :=
    ⟨fun k => if h : k < n then Classical.choose (each k h) else (ByteArray.empty, []), fun k hkn => by simp only [dif_pos hkn]; exact Classical.choose_spec (each k hkn)⟩
  have hl : ((List.range n).map F).length = n := by simp
  refine ⟨A, n, cc, (List.range n).map F, he, hl, ⟨A, cc, by rw [hl], by rw [hl]; exact h1, h2, fun k hk' => ?_⟩, fun t ht => ?_⟩
  · have hkn : k < n := by simpa using hk'
    obtain ⟨⟨g, o, fv, h5, h6, h7, h8, h9⟩, _⟩ := hF k hkn
    exact ⟨g, o, fv, h5, h6, by simpa using h7, h8, by simpa using h9⟩
  · obtain ⟨k, hkr, rfl⟩ := List.mem_map.1 ht
    exact (hF k (by simpa using hkr)).2
end
/-- A type that is being made, in the block that W has first: its name, and its fields. -/
structure Tm (W wr : World) (nm : ByteArray) (fv : Value) (fs : List Fld) : Prop where
  be : Below W.heap.size W wr
  row : Row wr W.heap.size 67 #[.string nm, fv]
  sg : ∃ ob, Seg wr 72 2 fv fs.length (cellsF fs) ob ∧ ∀ g, ob = some g → W.heap.size < g
section
variable {w W wr wr' : World} {nm : ByteArray} {fv v : Value} {fs : List Fld} {ts : List Ty}
theorem Tm.start (W : World) (nm : ByteArray) : Tm W (W.alloc (.cells #[.string nm, .slice none 0 0] 67)) nm (.slice none 0 0) [] :=
  ⟨(Below.refl _ W).alloc (Nat.le_refl _) _, Row.made _ _ _, none, Seg.nil _ _ _, fun g h => by cases h⟩
theorem Tm.call (h : Tm W wr nm fv fs) (g : Below wr.heap.size wr wr') : Tm W wr' nm fv fs := by
  obtain ⟨ob, h1, h2⟩ := h.sg
  exact ⟨h.be.trans (g.mono h.be.size), h.row.below g h.row.lt, ob, h1.turns (Turns.of_below g) (fun _ _ x => x), h2⟩
theorem Tm.name (h : Tm W wr nm fv fs) (nm' : ByteArray) : Tm W (wr.setCell ⟨W.heap.size, 0, none⟩ (.string nm')) nm' fv fs := by
  obtain ⟨ob, h1, h2⟩ := h.sg
  exact ⟨h.be.setCell (p := ⟨W.heap.size, 0, none⟩) (Nat.le_refl _) _, by simpa using h.row.put 0 (.string nm'), ob, h1.past (p := ⟨W.heap.size, 0, none⟩) (fun e => by have := h2 _ e; simp at this) _, h2⟩
theorem Tm.push {W2 : World} {v2 : Value} {f : Fld} {ob ob2 : Option Nat} {o : Obj} (h : Tm W wr nm fv fs) (hs1 : Seg wr 72 2 fv fs.length (cellsF fs) ob) (ho1 : ∀ g, ob = some g → W.heap.size < g)
    (hs2 : Seg W2 72 2 v2 (fs.length + 1) (cellsF fs ++ [.string f.1, .int .i64 f.2]) ob2) (ht2 : Turns (wr.alloc o) W2 (fun g => ob = some g)) (ho2 : ob2 = ob ∨ ∃ g, ob2 = some g ∧ (wr.alloc o).heap.size ≤ g) :
    Tm W (W2.setCell ⟨W.heap.size, 1, none⟩ v2) nm v2 (fs ++ [f]) := by
  have hz := h.row.lt
  have ho : ∀ g, ob2 = some g → W.heap.size < g := fun g hg => by
    rcases ho2 with e | ⟨g', e, hg'⟩
    · exact ho1 g (by rw [← e, hg])
    · rw [e] at hg; injection hg with hg; simp at hg'; omega
  refine ⟨(ht2.below (h.be.alloc h.be.size o) (by simp; omega) (fun j hj e => by have := ho1 _ e; omega)).setCell (p := ⟨W.heap.size, 1, none⟩) (Nat.le_refl _) _, ?_, ob2, ?_, ho⟩
  · have := Row.put (Row.turns (h.row.alloc o) ht2 (fun e => by have := ho1 _ e; omega)) 1 v2
    simpa using this
  · have hc : cellsF (fs ++ [f]) = cellsF fs ++ [.string f.1, .int .i64 f.2] := by simp [cellsF]
    rw [hc, List.length_append]
    exact hs2.past (p := ⟨W.heap.size, 1, none⟩) (fun e => by have := ho _ e; simp at this) _
/-- A list of types that a call has made. -/
structure Tl (w wr : World) (v : Value) (ts : List Ty) : Prop where
  be : Below w.heap.size w wr
  st : ∃ ob xs, Seg wr 67 2 v ts.length xs ob ∧ (∀ g, ob = some g → w.heap.size ≤ g) ∧
    ∀ j (hj : j < ts.length), ∃ fv, xs[j * 2]? = some (.string ts[j].1) ∧ xs[j * 2 + 1]? = some fv ∧ FsS wr (fun g => w.heap.size ≤ g ∧ ob ≠ some g) fv ts[j].2
  sh : ts.length ≤ 5 ∧ ∀ t ∈ ts, t.2.length ≤ 4
theorem Tl.call (h : Tl w wr v ts) (g : Below wr.heap.size wr wr') : Tl w wr' v ts := by
  obtain ⟨ob, xs, h1, h2, h3⟩ := h.st
  refine ⟨h.be.trans (g.mono h.be.size), ⟨ob, xs, h1.turns (Turns.of_below g) (fun _ _ x => x), h2, fun j hj => ?_⟩, h.sh⟩
  obtain ⟨fv, a, b, c⟩ := h3 j hj
  exact ⟨fv, a, b, c.keep fun q hq hs => ⟨g.block q hq, hs⟩⟩
theorem Tl.start (w : World) : Tl w (w.alloc (.cells #[] 67)) (.slice (some ⟨w.heap.size, 0, none⟩) 0 0) [] :=
  ⟨(Below.refl _ w).alloc (Nat.le_refl _) _, ⟨none, [], seg_zero _ _ _ _, fun g h => (by cases h), fun j hj => (by simp at hj)⟩, by simp, fun t ht => by simp at ht⟩
theorem Tl.push {W2 : World} {v2 : Value} {ob ob2 : Option Nat} {xs : List Value} {o : Obj} (h : Tl w W v ts) (hs1 : Seg W 67 2 v ts.length xs ob) (ho1 : ∀ g, ob = some g → w.heap.size ≤ g)
    (hx : ∀ j (hj : j < ts.length), ∃ fv, xs[j * 2]? = some (.string ts[j].1) ∧ xs[j * 2 + 1]? = some fv ∧ FsS W (fun g => w.heap.size ≤ g ∧ ob ≠ some g) fv ts[j].2)
    (ht : Tm W wr nm fv fs) (hfs : fs.length ≤ 4) (hts : ts.length < 5)
    (hs2 : Seg W2 67 2 v2 (ts.length + 1) (xs ++ [.string nm, fv]) ob2) (ht2 : Turns (wr.alloc o) W2 (fun g => ob = some g)) (ho2 : ob2 = ob ∨ ∃ g, ob2 = some g ∧ (wr.alloc o).heap.size ≤ g) :
    Tl w W2 v2 (ts ++ [(nm, fs)]) := by
  have hz := h.be.size
  have hz2 := ht.be.size
  have hW := h.call ht.be
  have hxl : xs.length = ts.length * 2 := hs1.1
  have hob : ∀ g, ob = some g → g < W.heap.size := hs1.lt
  have hob2 : ∀ g, ob2 = some g → w.heap.size ≤ g := fun g hg => by
    rcases ho2 with e | ⟨g', e, hg'⟩
    · exact ho1 g (by rw [← e, hg])
    · rw [e] at hg; injection hg with hg; simp at hg'; omega
  have keep : ∀ g, g < wr.heap.size → (w.heap.size ≤ g ∧ ob ≠ some g) → W2.heap[g]? = wr.heap[g]? ∧ (w.heap.size ≤ g ∧ ob2 ≠ some g) := fun g hg hs =>
    ⟨(ht2.block g (by simp; omega) (fun e => hs.2 e)).trans (Below.heap_alloc wr o g hg), hs.1, by
      rcases ho2 with e | ⟨g', e, hg'⟩
      · rw [e]; exact hs.2
      · rw [e]; intro e'; injection e' with e'; simp at hg'; omega⟩
  refine ⟨ht2.below (hW.be.alloc hW.be.size o) (by simp; omega) (fun j hj e => by have := ho1 _ e; omega), ⟨ob2, xs ++ [.string nm, fv], by rw [List.length_append]; exact hs2, hob2, fun j hj => ?_⟩, by rw [List.length_append]; simp; omega, fun t htm => ?_⟩
  · by_cases e : j < ts.length
    · obtain ⟨fv', a, b, c⟩ := hx j e
      refine ⟨fv', ?_, ?_, ?_⟩
      · rw [List.getElem?_append_left (by omega), List.getElem_append_left e]; exact a
      · rw [List.getElem?_append_left (by omega)]; exact b
      · rw [List.getElem_append_left e]
        have c1 : FsS wr (fun g => w.heap.size ≤ g ∧ ob ≠ some g) fv' ts[j].2 := c.keep fun q hq hs => ⟨ht.be.block q hq, hs⟩
        exact c1.keep keep
    · have he : j = ts.length := by rw [List.length_append] at hj; simp at hj; omega
      subst he
      obtain ⟨o3, h4, h5⟩ := ht.sg
      refine ⟨fv, ?_, ?_, ?_⟩
      · rw [List.getElem?_append_right (by omega)]; simp [hxl]
      · rw [List.getElem?_append_right (by omega)]; simp [hxl]
      · simp only [List.getElem_append_right (Nat.le_refl _), Nat.sub_self, List.getElem_cons_zero]
        exact (fs_of_seg (S := fun g => w.heap.size ≤ g ∧ ob ≠ some g) h4 (fun g hg => ⟨by have := h5 g hg; omega, fun e => by have := h5 g hg; have := hob g e; omega⟩)).keep keep
  · rcases List.mem_append.1 htm with h6 | h6
    · exact h.sh.2 t h6
    · simp at h6; subst h6; exact hfs
end
end Go.Proofs.YtookojgemipakaaDoor.Sch

/- Types of few names, made. -/
namespace Go.Proofs.YtookojgemipakaaDoor.Sch
open Go.RowKit Go.Proofs.YtookojgemipakaaDoor
set_option linter.unusedVariables false
set_option maxRecDepth 100000
theorem seg_row {w : World} {e : TypeId} {size n : Nat} {v : Value} {xs : List Value} {g : Nat} (h : Seg w e size v n xs (some g)) : ∃ c, Row w g e c := by
  obtain ⟨_, A, cap, _, _, _, ⟨_, h2, _⟩ | ⟨g', o, cur, _, h2, h3, _⟩⟩ := h
  · cases h2
  · cases h2; exact ⟨_, h3⟩
theorem row_ne {w : World} {b b' : Nat} {t t' : TypeId} {c c' : Array Value} (h : Row w b t c) (g : Row w b' t' c') (hn : t ≠ t') : b ≠ b' := by
  intro e
  subst e
  unfold Row at h g
  rw [h] at g
  cases g
  exact hn rfl
def nmsC : Array Value := #[.string ⟨#[65]⟩, .string ⟨#[66]⟩, .string ⟨#[67]⟩, .string ⟨#[68]⟩, .string ⟨#[69]⟩]
theorem nms_at : ∀ k, k < 5 → ∃ s : ByteArray, nmsC[k]? = some (.string s)
  | 0, _ => ⟨_, rfl⟩
  | 1, _ => ⟨_, rfl⟩
  | 2, _ => ⟨_, rfl⟩
  | 3, _ => ⟨_, rfl⟩
  | 4, _ => ⟨_, rfl⟩
  | k + 5, h => absurd h (by omega)
/-- What near holds between rounds. -/
structure Nr (w wr : World) (v : Value) (nb k : Nat) : Prop where
  tl : ∃ ts, ts.length = k ∧ Tl w wr v ts
  nr : Row wr nb 9 nmsC
section
variable {w wr wr' W : World} {v : Value} {nb k : Nat}
theorem Nr.call (h : Nr w wr v nb k) (g : Below wr.heap.size wr wr') : Nr w wr' v nb k := by
  obtain ⟨ts, h1, h2⟩ := h.tl
  exact ⟨⟨ts, h1, h2.call g⟩, h.nr.below g h.nr.lt⟩
theorem Nr.start (w : World) : Nr w ((w.alloc (.cells #[] 67)).alloc (.cells nmsC 9)) (.slice (some ⟨w.heap.size, 0, none⟩) 0 0) (w.heap.size + 1) 0 :=
  ⟨⟨[], rfl, (Tl.start w).call ((Below.refl _ _).alloc (Nat.le_refl _) _)⟩, made_two w _ _ _⟩
theorem Nr.name (h : Nr w wr v nb k) (j : Nat) (hj : j < 5) : ∃ s : ByteArray, wr.cell? ⟨nb, j, none⟩ = some (.string s) := by
  obtain ⟨s, hs⟩ := nms_at j hj
  exact ⟨s, (h.nr.cell j).trans hs⟩
end
/-- A type is at hand, and what is behind it. -/
structure Nt (w W wr : World) (v : Value) (nb k : Nat) (nm : ByteArray) (fv : Value) (fs : List Fld) : Prop where
  nr : Nr w W v nb k
  tm : Tm W wr nm fv fs
theorem Nt.nb {w W wr : World} {v : Value} {nb k : Nat} {nm : ByteArray} {fv : Value} {fs : List Fld} (h : Nt w W wr v nb k nm fv fs) (j : Nat) (hj : j < 5) : ∃ s : ByteArray, wr.cell? ⟨nb, j, none⟩ = some (.string s) := by
  obtain ⟨s, hs⟩ := h.nr.name j hj
  exact ⟨s, (h.tm.be.cell (p := ⟨nb, j, none⟩) h.nr.nr.lt).trans hs⟩
theorem Nt.name {w W wr : World} {v : Value} {nb k : Nat} {nm : ByteArray} {fv : Value} {fs : List Fld} (h : Nt w W wr v nb k nm fv fs) (nm' : ByteArray) : Nt w W (wr.setCell ⟨W.heap.size, 0, none⟩ (.string nm')) v nb k nm' fv fs := ⟨h.nr, h.tm.name nm'⟩
theorem Nt.call {w W wr wr' : World} {v : Value} {nb k : Nat} {nm : ByteArray} {fv : Value} {fs : List Fld} (h : Nt w W wr v nb k nm fv fs) (g : Below wr.heap.size wr wr') : Nt w W wr' v nb k nm fv fs := ⟨h.nr, h.tm.call g⟩
/-- A field is at hand, too, in the block that W1 has first. -/
structure Nf (w W W1 wx : World) (v : Value) (nb k : Nat) (nm : ByteArray) (fv : Value) (fs : List Fld) (f : Fld) : Prop where
  nt : Nt w W W1 v nb k nm fv fs
  be : Below W1.heap.size W1 wx
  row : Row wx W1.heap.size 72 #[.string f.1, .int .i64 f.2]
section
variable {w W W1 wx wy : World} {v : Value} {nb k : Nat} {nm : ByteArray} {fv : Value} {fs : List Fld} {f : Fld}
theorem Nf.start (h : Nt w W W1 v nb k nm fv fs) (f : Fld) : Nf w W W1 (W1.alloc (.cells #[.string f.1, .int .i64 f.2] 72)) v nb k nm fv fs f := ⟨h, (Below.refl _ W1).alloc (Nat.le_refl _) _, Row.made _ _ _⟩
theorem Nf.call (h : Nf w W W1 wx v nb k nm fv fs f) (g : Below wx.heap.size wx wy) : Nf w W W1 wy v nb k nm fv fs f := ⟨h.nt, h.be.trans (g.mono h.be.size), h.row.below g h.row.lt⟩
theorem Nf.kind (h : Nf w W W1 wx v nb k nm fv fs f) (z : Int) : Nf w W W1 (wx.setCell ⟨W1.heap.size, 1, none⟩ (.int .i64 z)) v nb k nm fv fs (f.1, z) := ⟨h.nt, h.be.setCell (p := ⟨W1.heap.size, 1, none⟩) (Nat.le_refl _) _, by simpa using h.row.put 1 (.int .i64 z)⟩
theorem Nf.name (h : Nf w W W1 wx v nb k nm fv fs f) (s : ByteArray) : Nf w W W1 (wx.setCell ⟨W1.heap.size, 0, none⟩ (.string s)) v nb k nm fv fs (s, f.2) := ⟨h.nt, h.be.setCell (p := ⟨W1.heap.size, 0, none⟩) (Nat.le_refl _) _, by simpa using h.row.put 0 (.string s)⟩
theorem Nf.nw (h : Nf w W W1 wx v nb k nm fv fs f) : Nt w W wx v nb k nm fv fs := h.nt.call h.be
end
theorem mod3 (z : Int) : ∃ q : Nat, ((z % 256).tmod 3 = (q : Int)) ∧ q < 3 := ⟨((z % 256) % 3).toNat, by rw [Int.tmod_eq_emod_of_nonneg (by omega)]; omega, by omega⟩
theorem cells_push (fs : List Fld) (f : Fld) : cellsF (fs ++ [f]) = cellsF fs ++ [.string f.1, .int .i64 f.2] := by simp [cellsF]
def NearPost (w : World) (e : Ending) (w' : World) : Prop := ∃ v ts, e = .returned v ∧ Tl w w' v ts
theorem mod5 (n : Nat) : ∃ q : Nat, ((n : Int).tmod 5 = (q : Int)) ∧ q < 5 := ⟨n % 5, by rw [Int.tmod_eq_emod_of_nonneg (by omega)]; omega, by omega⟩
end Go.Proofs.YtookojgemipakaaDoor.Sch

/- What is wrong with types first, as the law reckons it. -/
namespace Go.Proofs.YtookojgemipakaaDoor.Sch
open Go.RowKit Go.Proofs.YtookojgemipakaaDoor
set_option linter.unusedVariables false
set_option maxRecDepth 100000
theorem idx_neg {l : List ByteArray} {nm : ByteArray} : idx l nm < 0 ↔ ∀ i (h : i < l.length), l[i].toList ≠ nm.toList := by
  constructor
  · intro h i hi
    unfold idx at h
    cases hf : l.findIdx? (fun x => x.toList == nm.toList) with
    | none =>
      rw [List.findIdx?_eq_none_iff] at hf
      have := hf l[i] (List.getElem_mem hi)
      simpa using this
    | some k =>
      rw [hf] at h
      dsimp only at h
      omega
  · intro h
    rw [idx_miss h]
    decide
theorem nof_take {l : List ByteArray} {nm : ByteArray} {k : Nat} (hk : k ≤ l.length) : NoF l nm k ↔ idx (l.take k) nm < 0 := by
  rw [idx_neg]
  constructor
  · intro h i hi
    have hl : i < l.length := by rw [List.length_take] at hi; omega
    rw [List.getElem_take]
    exact h i hl (by rw [List.length_take] at hi; omega)
  · intro h j hj hjk
    have := h j (by rw [List.length_take]; omega)
    rwa [List.getElem_take] at this
theorem map_take (fs : List Fld) (k : Nat) : (fs.take k).map Prod.fst = (fs.map Prod.fst).take k := by rw [List.map_take]
theorem map_takeT (ts : List Ty) (k : Nat) : (ts.take k).map Prod.fst = (ts.map Prod.fst).take k := by rw [List.map_take]
theorem not_nof {l : List ByteArray} {nm : ByteArray} {k i : Nat} (hi : i < l.length) (hik : i < k) (he : l[i].toList = nm.toList) : ¬ NoF l nm k := fun h => h i hi hik he
/-- How what is wrong is told. -/
def WrPost (w : World) (ts : List Ty) (e : Ending) (w' : World) : Prop := ∃ c, e = .returned (.int .i64 c) ∧ NewR ts c ∧ Below w.heap.size w w'
theorem wr_input {w w' : World} {ts : List Ty} {k : Nat} (hl : ts.length ≤ 16) (hk : k < ts.length) (hf : Fine ts k) (hm : ¬ MayT ts[k]) (hb : Below w.heap.size w w') : WrPost w ts (.returned (.int .i64 1)) w' := ⟨1, rfl, .inr (.inl ⟨hl, k, hk, hf, hm, rfl⟩), hb⟩
theorem wr_twice {w w' : World} {ts : List Ty} {k q : Nat} (hl : ts.length ≤ 16) (hk : k < ts.length) (hf : Fine ts k) (hm : MayT ts[k]) (hq : q < k) (he : (ts[q]'(by omega)).1.toList = ts[k].1.toList) (hb : Below w.heap.size w w') : WrPost w ts (.returned (.int .i64 4)) w' := by
  refine ⟨4, rfl, .inr (.inr (.inl ⟨hl, k, hk, hf, hm, ?_, rfl⟩)), hb⟩
  have hn : ¬ idx ((ts.take k).map Prod.fst) ts[k].1 < 0 := by
    rw [map_takeT, ← nof_take (by rw [List.length_map]; omega)]
    exact not_nof (i := q) (by rw [List.length_map]; omega) hq (by simpa using he)
  omega
theorem wr_ok {w w' : World} {ts : List Ty} (hl : ts.length ≤ 16) (hf : Fine ts ts.length) (hb : Below w.heap.size w w') : WrPost w ts (.returned (.int .i64 0)) w' := ⟨0, rfl, .inr (.inr (.inr ⟨hl, hf, rfl⟩)), hb⟩
theorem not_may_name {t : Ty} (h : nameB t.1.data.toList = false) : ¬ MayT t := fun m => by have := m.1; rw [h] at this; cases this
theorem not_may_field {t : Ty} {j : Nat} (hj : j < t.2.length) (h : ¬ OkF t.2 j hj) : ¬ MayT t := fun m => h (m.2.2 j hj)
theorem not_ok_twin {fs : List Fld} {j i : Nat} (hj : j < fs.length) (hi : i < j) (he : (fs[i]'(by omega)).1.toList = fs[j].1.toList) : ¬ OkF fs j hj := fun h => by
  have h3 := h.2.2
  rw [map_take, ← nof_take (by rw [List.length_map]; omega)] at h3
  exact not_nof (i := i) (by rw [List.length_map]; omega) hi (by simpa using he) h3
theorem ok_field {fs : List Fld} {j : Nat} (hj : j < fs.length) (h1 : nameB fs[j].1.data.toList = true) (h2 : kindB fs[j].2 = true) (h3 : NoF (fs.map Prod.fst) fs[j].1 j) : OkF fs j hj :=
  ⟨h1, h2, by rw [map_take, ← nof_take (by rw [List.length_map]; omega)]; exact h3⟩
theorem allF_succ {fs : List Fld} {j : Nat} (hj : j < fs.length) (ha : AllF fs j) (h : OkF fs j hj) : AllF fs (j + 1) := fun i hi hij => by
  by_cases e : i = j
  · subst e; exact h
  · exact ha i hi (by omega)
theorem fine_succ {ts : List Ty} {k : Nat} (hk : k < ts.length) (hf : Fine ts k) (hm : MayT ts[k]) (h : NoF (ts.map Prod.fst) ts[k].1 k) : Fine ts (k + 1) := fun i hi hik => by
  by_cases e : i = k
  · subst e; exact ⟨hm, by rw [map_takeT, ← nof_take (by rw [List.length_map]; omega)]; exact h⟩
  · exact hf i hi (by omega)
end Go.Proofs.YtookojgemipakaaDoor.Sch

/- Names, Find and Field of a schema. -/
namespace Go.Proofs.YtookojgemipakaaDoor.Sch
open Go.RowKit Go.Proofs.YtookojgemipakaaDoor
set_option linter.unusedVariables false
set_option maxRecDepth 100000
theorem fine_lt {ts : List Ty} {k j : Nat} (h : Fine ts k) (hj : j < ts.length) (hn : ¬ OkT ts j hj) : k ≤ j := by
  apply Nat.le_of_not_lt
  intro hlt
  exact hn (h j hj hlt)
theorem newR_one {ts : List Ty} {a b : Int} (ha : NewR ts a) (hb : NewR ts b) : a = b := by
  have key : ∀ (c : Int), NewR ts c → ts.length ≤ 16 → (c = 1 ∧ ∃ k, ∃ h : k < ts.length, Fine ts k ∧ ¬ MayT ts[k]) ∨ (c = 4 ∧ ∃ k, ∃ h : k < ts.length, Fine ts k ∧ MayT ts[k] ∧ ¬ OkT ts k h) ∨ (c = 0 ∧ Fine ts ts.length) := fun c hc hl => by
    rcases hc with ⟨h, _⟩ | ⟨_, k, hk, hf, hm, rfl⟩ | ⟨_, k, hk, hf, hm, hi, rfl⟩ | ⟨_, hf, rfl⟩
    · omega
    · exact .inl ⟨rfl, k, hk, hf, hm⟩
    · exact .inr (.inl ⟨rfl, k, hk, hf, hm, fun o => by have := o.2; omega⟩)
    · exact .inr (.inr ⟨rfl, hf⟩)
  by_cases hl : ts.length ≤ 16
  · rcases key a ha hl with ⟨rfl, k, hk, hf, hm⟩ | ⟨rfl, k, hk, hf, hm, ho⟩ | ⟨rfl, hf⟩
    · rcases key b hb hl with ⟨rfl, _⟩ | ⟨rfl, j, hj, gf, gm, go⟩ | ⟨rfl, gf⟩
      · rfl
      · have h1 := fine_lt hf hj go
        have h2 := fine_lt gf hk (fun o => hm o.1)
        have : k = j := by omega
        subst this
        exact absurd gm hm
      · exact absurd (gf k hk hk).1 hm
    · rcases key b hb hl with ⟨rfl, j, hj, gf, gm⟩ | ⟨rfl, _⟩ | ⟨rfl, gf⟩
      · have h1 := fine_lt hf hj (fun o => gm o.1)
        have h2 := fine_lt gf hk ho
        have : k = j := by omega
        subst this
        exact absurd hm gm
      · rfl
      · exact absurd (gf k hk hk) ho
    · rcases key b hb hl with ⟨rfl, j, hj, gf, gm⟩ | ⟨rfl, j, hj, gf, gm, go⟩ | ⟨rfl, gf⟩
      · exact absurd (hf j hj hj).1 gm
      · exact absurd (hf j hj hj) go
      · rfl
  · rcases ha with ⟨_, rfl⟩ | ⟨h, _⟩ | ⟨h, _⟩ | ⟨h, _⟩
    · rcases hb with ⟨_, rfl⟩ | ⟨h, _⟩ | ⟨h, _⟩ | ⟨h, _⟩
      · rfl
      · omega
      · omega
      · omega
    · omega
    · omega
    · omega
def nmV (ts : List Ty) : List Value := ts.map fun t => .string t.1
theorem nmV_push (ts : List Ty) (k : Nat) (h : k < ts.length) : nmV (ts.take (k + 1)) = nmV (ts.take k) ++ [.string ts[k].1] := by
  unfold nmV
  rw [List.take_succ_eq_append_getElem h, List.map_append]
  rfl
theorem string_info : (Tryd.prog.info? 9).map (fun i => (i.zero, i.size, i.bytes)) = some (some (.string ByteArray.empty), 1, 16) := by kernel_rfl
theorem one_newsS (w : World) (x : Value) : ∀ j u, [x][j]? = some u → (w.alloc (.cells #[x] 9)).cell? ((⟨w.heap.size, 0, none⟩ : Addr).add j) = some u := by
  intro j u hj
  match j, hj with
  | 0, hj => simp at hj; subst hj; simp [Addr.add]
/-- Names that were told. -/
structure Nms (w w' : World) (v : Value) (ts : List Ty) : Prop where
  be : Below w.heap.size w w'
  sg : ∃ ob, Seg w' 9 1 v ts.length (nmV ts) ob ∧ ∀ g, ob = some g → w.heap.size ≤ g
theorem Nms.call {w w1 w2 : World} {v : Value} {ts : List Ty} (h : Nms w w1 v ts) (g : Below w1.heap.size w1 w2) : Nms w w2 v ts := by
  obtain ⟨ob, h1, h2⟩ := h.sg
  exact ⟨h.be.trans (g.mono h.be.size), ob, h1.turns (Turns.of_below g) (fun _ _ x => x), h2⟩
theorem Nms.push {w W W2 : World} {v2 : Value} {ts : List Ty} {k : Nat} {ob ob2 : Option Nat} {o : Obj} (hk : k < ts.length) (h : Below w.heap.size w W) (ho1 : ∀ g, ob = some g → w.heap.size ≤ g)
    (hs2 : Seg W2 9 1 v2 (k + 1) (nmV (ts.take k) ++ [.string ts[k].1]) ob2) (ht2 : Turns (W.alloc o) W2 (fun g => ob = some g)) (ho2 : ob2 = ob ∨ ∃ g, ob2 = some g ∧ (W.alloc o).heap.size ≤ g) : Nms w W2 v2 (ts.take (k + 1)) := by
  have hz := h.size
  refine ⟨ht2.below (h.alloc h.size o) (by simp; omega) (fun j hj e => by have := ho1 _ e; omega), ob2, ?_, fun g hg => ?_⟩
  · rw [nmV_push ts k hk]
    have : (ts.take (k + 1)).length = k + 1 := by rw [List.length_take]; omega
    rw [this]
    exact hs2
  · rcases ho2 with e | ⟨g', e, hg'⟩
    · exact ho1 g (by rw [← e, hg])
    · rw [e] at hg; injection hg with hg; simp at hg'; omega
def NmPost (w : World) (ts : List Ty) (e : Ending) (w' : World) : Prop := ∃ v, e = .returned v ∧ Nms w w' v ts
theorem field_no1 (p : Option Addr) (ts : List Ty) (n f : ByteArray) (w : World) (hs : Sc w w.heap.size p ts) (hi : idx (ts.map Prod.fst) n < 0) :
    Calls Tryd.prog 40 #[.pointer p, .string n, .string f] w fun e w' => e = .returned (.tuple #[.int .i64 (-1), .int .i64 0]) ∧ Below w.heap.size w w' := by
  have HS := Lib.hid hs
  obtain ⟨r, hr⟩ : ∃ r, idx (ts.map Prod.fst) n = r := ⟨_, rfl⟩
  rw [hr] at hi
  have HR := Lib.hid hr
  have hrd : decide (r < 0) = true := decide_eq_true hi
  clear hs hr
  go_enter Tryd.func40, Tryd.ntmps40
  go_wp2_with fail
  refine (place_is p ts n w.heap.size _ r HR.out HS.out (Nat.le_refl _)).mono ?_
  rintro e w1 ⟨rfl, hb1⟩
  have HB1 := Lib.hid hb1
  clear hb1
  go_wp2
  go_ret2
  exact ⟨rfl, HB1.out⟩
theorem field_no2 (p : Option Addr) (ts : List Ty) (n f : ByteArray) (i : Nat) (fs : List Fld) (w : World) (hs : Sc w w.heap.size p ts) {n' : ByteArray} (hi : idx (ts.map Prod.fst) n = i) (hti : ts[i]? = some (n', fs)) (hj : idx (fs.map Prod.fst) f < 0) :
    Calls Tryd.prog 40 #[.pointer p, .string n, .string f] w fun e w' => e = .returned (.tuple #[.int .i64 (-1), .int .i64 0]) ∧ Below w.heap.size w w' := by
  have HS := Lib.hid hs
  obtain ⟨b, v, rfl, hb, hc, hts⟩ := hs
  obtain ⟨A, c, rfl, hn, hcm, h3⟩ := hts
  obtain ⟨hil, hie⟩ := List.getElem?_eq_some_iff.1 hti
  obtain ⟨g, o, fv, rfl, hg, c0, c1, hfs⟩ := h3 i hil
  rw [hie] at hfs
  have HFS := Lib.hid hfs
  obtain ⟨A2, c2, rfl, hn2, hcm2, h4⟩ := hfs
  obtain ⟨r, hr⟩ : ∃ r, idx (fs.map Prod.fst) f = r := ⟨_, rfl⟩
  rw [hr] at hj
  have hrd : decide (r < 0) = true := decide_eq_true hj
  have HR := Lib.hid hr
  have HI := Lib.hid hi
  have hi63 : i ≤ 9223372036854775807 := by omega
  clear h3 h4 c0 hti hie hi hr
  have c1w := Lib.hid c1
  have hcw := Lib.hid hc
  clear c1 hc
  go_enter Tryd.func40, Tryd.ntmps40
  go_wp2_with fail
  refine (place_is _ ts n w.heap.size _ _ HI.out HS.out (Nat.le_refl _)).mono ?_
  rintro e w1 ⟨rfl, hb1⟩
  have e1 : w1.cell? ⟨b, 0, none⟩ = some (.slice (some ⟨g, o, none⟩) ts.length c) := (hb1.cell (p := ⟨b, 0, none⟩) (by simp; omega)).trans hcw.out
  have e2 : w1.cell? ⟨g, o + i * 2 + 1, none⟩ = some (.slice A2 fs.length c2) := (hb1.cell (p := ⟨g, o + i * 2 + 1, none⟩) (by simp; omega)).trans c1w.out
  have HFS1 := Lib.hid (HFS.out.below hb1 (Nat.le_refl _))
  have HB1 := Lib.hid hb1
  clear hb1
  go_wp2_with fail
  refine (fieldPlace_any _ fs f w.heap.size _ HFS1.out HB1.out.size).mono ?_
  rintro e w2 ⟨rfl, hb2⟩
  rw [HR.out]
  have HB := Lib.hid (HB1.out.trans (hb2.mono HB1.out.size))
  clear e1 e2 hb2
  go_wp2
  go_ret2
  exact ⟨rfl, HB.out⟩
/-- What Find tells of none. -/
def NoPost (w : World) (e : Ending) (w' : World) : Prop := e = .returned (.tuple #[.agg #[.string ⟨#[]⟩, .slice none 0 0], .bool false]) ∧ Below w.heap.size w w'
theorem find_no (p : Option Addr) (ts : List Ty) (n : ByteArray) (w : World) (hs : Sc w w.heap.size p ts) (hi : idx (ts.map Prod.fst) n < 0) :
    Calls Tryd.prog 63 #[.pointer p, .string n] w (NoPost w) := by
  have HS := Lib.hid hs
  obtain ⟨r, hr⟩ : ∃ r, idx (ts.map Prod.fst) n = r := ⟨_, rfl⟩
  rw [hr] at hi
  have HR := Lib.hid hr
  have hrd : decide (r < 0) = true := decide_eq_true hi
  clear hs hr
  go_enter Tryd.func63, Tryd.ntmps63
  go_wp2_with fail
  refine (place_is p ts n w.heap.size _ r HR.out (HS.out.below ((Below.refl _ w).alloc (Nat.le_refl _) _) (Nat.le_refl _)) (by simp)).mono ?_
  rintro e w' ⟨rfl, hb⟩
  have R : Row w' w.heap.size 67 #[.string ByteArray.empty, .slice none 0 0] := Row.below (Row.made w _ _) hb (by simp)
  have c0 : w'.cell? ⟨w.heap.size, 0, none⟩ = some (.string ByteArray.empty) := (R.cell 0).trans rfl
  have c1 : w'.cell? ⟨w.heap.size, 1, none⟩ = some (.slice none 0 0) := (R.cell 1).trans rfl
  have f0 := R.free 0
  have f1 := R.free 1
  have HB := Lib.hid (((Below.refl w.heap.size w).alloc (Nat.le_refl _) _).trans (hb.mono (by simp)))
  clear hb R
  go_wp2
  have e0 : (w'.setCell ⟨w.heap.size, 0, none⟩ (.string ⟨#[]⟩)).cell? ⟨w.heap.size, 0, none⟩ = some (.string ⟨#[]⟩) := World.cell?_setCell_same' _ _ _ (by rw [c0]; rfl)
  try simp only [Exit.inBlock, Exit.then]
  refine bodyPost_ret (by simp [results, Tryd.results63, go_sem, e0, c1]; try rfl) rfl ?_
  exact ⟨rfl, (HB.out.setCell (Nat.le_refl _) _).setCell (Nat.le_refl _) _⟩
/-- What Find tells of one. -/
def YesPost (w : World) (n : ByteArray) (fs : List Fld) (e : Ending) (w' : World) : Prop := ∃ v, e = .returned (.tuple #[.agg #[.string n, v], .bool true]) ∧ FsS w' (fun g => w.heap.size ≤ g ∧ g < w'.heap.size) v fs ∧ Below w.heap.size w w'
set_option maxHeartbeats 800000 in
theorem find_yes (p : Option Addr) (ts : List Ty) (n : ByteArray) (i : Nat) (fs : List Fld) (w : World) (hs : Sc w w.heap.size p ts) {n' : ByteArray} (hi : idx (ts.map Prod.fst) n = i) (hti : ts[i]? = some (n', fs)) (hfl : fs.length ≤ 1000000) :
    Calls Tryd.prog 63 #[.pointer p, .string n] w (YesPost w n' fs) := by
  have HS := Lib.hid hs
  obtain ⟨b, v, rfl, hb, hc, hts⟩ := hs
  obtain ⟨A, c, rfl, hn, hcm, h3⟩ := hts
  obtain ⟨hil, hie⟩ := List.getElem?_eq_some_iff.1 hti
  obtain ⟨g, o, fv, rfl, hg, c0, c1, hfs⟩ := h3 i hil
  rw [hie] at hfs c0
  have HFS := Lib.hid hfs
  obtain ⟨A2, c2, rfl, hn2, hcm2, h4⟩ := hfs
  have hi63 : i ≤ 9223372036854775807 := by omega
  have HI := Lib.hid hi
  have HC := Lib.hid hc
  have HC0 := Lib.hid c0
  have HC1 := Lib.hid c1
  clear h3 h4 hti hie hi hc c0 c1
  go_enter Tryd.func63, Tryd.ntmps63
  go_wp2_with fail
  refine (place_is _ ts n w.heap.size _ _ HI.out (HS.out.below ((Below.refl _ w).alloc (Nat.le_refl _) _) (Nat.le_refl _)) (by simp)).mono ?_
  rintro e w1 ⟨rfl, hb1⟩
  have hB1 : Below w.heap.size w w1 := ((Below.refl w.heap.size w).alloc (Nat.le_refl _) _).trans (hb1.mono (by simp))
  have e0 := (hB1.cell (p := ⟨b, 0, none⟩) hb).trans HC.out
  have e1 := (hB1.cell (p := ⟨g, o + i * 2, none⟩) hg).trans HC0.out
  have e2 := (hB1.cell (p := ⟨g, o + i * 2 + 1, none⟩) hg).trans HC1.out
  have R1 : Row w1 w.heap.size 67 #[.string ByteArray.empty, .slice none 0 0] := Row.below (Row.made w _ _) hb1 (by simp)
  have HR1 := Lib.hid R1
  have HFS1 := Lib.hid (HFS.out.below hB1 (Nat.le_refl _))
  have HB1 := Lib.hid hB1
  clear hb1 hB1 R1
  go_wp2_with fail
  refine (twin_any n' (.slice A2 fs.length c2) fs w.heap.size _ HFS1.out HB1.out.size hfl).mono ?_
  rintro e w2 ⟨v', rfl, hf2, hb2⟩
  have HF2 := Lib.hid hf2
  obtain ⟨A5, c5, rfl, hn5, hcm5, hx5⟩ := hf2
  have R2 := HR1.out.below hb2 HR1.out.lt
  have c0 : w2.cell? ⟨w.heap.size, 0, none⟩ = some (.string ByteArray.empty) := (R2.cell 0).trans rfl
  have c1 : w2.cell? ⟨w.heap.size, 1, none⟩ = some (.slice none 0 0) := (R2.cell 1).trans rfl
  have f0 := R2.free 0
  have f1 := R2.free 1
  have hz1 := HR1.out.lt
  have HB2 := Lib.hid (HB1.out.trans (hb2.mono HB1.out.size))
  have HZ := Lib.hid hb2.size
  clear hx5 hb2 R2 e0 e1 e2
  go_wp2
  have e0 : (w2.setCell ⟨w.heap.size, 0, none⟩ (.string n')).cell? ⟨w.heap.size, 0, none⟩ = some (.string n') := World.cell?_setCell_same' _ _ _ (by rw [c0]; rfl)
  have c1' : (w2.setCell ⟨w.heap.size, 0, none⟩ (.string n')).cell? ⟨w.heap.size, 1, none⟩ = some (.slice none 0 0) := (World.cell?_setCell_other _ _ _ _ (by simp)).trans c1
  have e1 : ((w2.setCell ⟨w.heap.size, 0, none⟩ (.string n')).setCell ⟨w.heap.size, 1, none⟩ (.slice A5 fs.length c5)).cell? ⟨w.heap.size, 1, none⟩ = some (.slice A5 fs.length c5) := World.cell?_setCell_same' _ _ _ (by rw [c1']; rfl)
  try simp only [Exit.inBlock, Exit.then]
  refine bodyPost_ret (by simp [results, Tryd.results63, go_sem, e0, e1]; try rfl) rfl ?_
  refine ⟨_, rfl, HF2.out.keep (fun q hq hs => ?_), (HB2.out.setCell (Nat.le_refl _) _).setCell (Nat.le_refl _) _⟩
  exact ⟨(heap_setCell_other _ _ q _ (by simp; omega)).trans (heap_setCell_other _ _ q _ (by simp; omega)), by omega, by simp; omega⟩
end Go.Proofs.YtookojgemipakaaDoor.Sch

