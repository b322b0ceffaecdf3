/- What a name is: the code's word on it, and the document's. -/
import Derived.Test.YtookojgemipakaaDoorSchA
namespace Go.Proofs.YtookojgemipakaaDoor.Sch
open Go.RowKit Go.Proofs.YtookojgemipakaaDoor
set_option linter.unusedVariables false

def okc (c : UInt8) : Bool := isLet c.toNat || isDig c.toNat
def nameB (l : List UInt8) : Bool := decide (l ≠ []) && decide (l.length ≤ 16) && !(isDig ((l.headD 0).toNat)) && !(wordB l) && l.all okc
def NameP (l : List UInt8) (w : World) (e : Ending) (w' : World) : Prop := e = .returned (.bool (nameB l)) ∧ w = w'
theorem name_no {l : List UInt8} {w : World} (h : nameB l = false) : NameP l w (.returned (.bool false)) w := ⟨by rw [h], rfl⟩
theorem name_yes' {l : List UInt8} {w : World} (h : nameB l = true) : NameP l w (.returned (.bool true)) w := ⟨by rw [h], rfl⟩
theorem nameB_nil : nameB [] = false := rfl
theorem nameB_long {l : List UInt8} (h : 16 < l.length) : nameB l = false := by
  unfold nameB; rw [show decide (l.length ≤ 16) = false from decide_eq_false (by omega)]; simp
theorem nameB_dig {l : List UInt8} (g : isDig ((l.headD 0).toNat) = true) : nameB l = false := by unfold nameB; rw [g]; simp
theorem nameB_word {l : List UInt8} (g : wordB l = true) : nameB l = false := by unfold nameB; rw [g]; simp
theorem nameB_bad {l : List UInt8} {k : Nat} (h : k < l.length) (g : okc l[k] = false) : nameB l = false := by
  unfold nameB
  have : l.all okc = false := by
    rw [List.all_eq_false]
    exact ⟨l[k], List.getElem_mem h, by simp [g]⟩
  simp [this]
def AllN (s : ByteArray) (k : Nat) : Prop := ∀ j (hj : j < s.data.toList.length), j < k → okc s.data.toList[j] = true
theorem AllN.zero (s : ByteArray) : AllN s 0 := fun _ _ h => absurd h (by omega)
theorem AllN.succ {s : ByteArray} {k : Nat} (h : AllN s k) (hk : k < s.size) (g : (isLet s[k].toNat || isDig s[k].toNat) = true) : AllN s (k + 1) := by
  intro j hj h1
  by_cases e : j = k
  · subst e; rw [sd s j hk]; exact g
  · exact h j hj (by omega)
theorem nameB_yes {s : ByteArray} (h0 : 0 < s.size) (h1 : s.size ≤ 16) (h2 : isDig s[0].toNat = false) (h3 : wordB s.data.toList = false) (h4 : AllN s s.size) : nameB s.data.toList = true := by
  have hl : s.data.toList.length = s.size := by simp
  unfold nameB
  have ha : s.data.toList.all okc = true := by
    rw [List.all_eq_true]
    intro x hx
    obtain ⟨i, hi, rfl⟩ := List.getElem_of_mem hx
    exact h4 i hi (by omega)
  have hd : s.data.toList.headD 0 = s[0] := by
    rw [List.headD_eq_head?_getD, List.head?_eq_getElem?, List.getElem?_eq_getElem (by omega), sd s 0 h0]; rfl
  rw [ha, h3, hd, h2]
  simp only [Bool.not_false, Bool.and_true, Bool.and_eq_true, decide_eq_true_eq]
  exact ⟨by intro e; rw [e] at hl; simp at hl; omega, by omega⟩
theorem digit_is (c : Int) (r : Bool) (w : World) (hr : isDig c = r) (h0 : 0 ≤ c := by omega) (h1 : c ≤ 255 := by omega) :
    Calls Tryd.prog 72 #[.int .u8 c] w fun e w' => e = .returned (.bool r) ∧ w = w' := by subst hr; exact digit_any c w h0 h1
theorem letter_is (c : Int) (r : Bool) (w : World) (hr : isLet c = r) (h0 : 0 ≤ c := by omega) (h1 : c ≤ 255 := by omega) :
    Calls Tryd.prog 74 #[.int .u8 c] w fun e w' => e = .returned (.bool r) ∧ w = w' := by subst hr; exact letter_any c w h0 h1
theorem word_is (s : ByteArray) (r : Bool) (w : World) (hr : wordB s.data.toList = r) :
    Calls Tryd.prog 73 #[.string s] w fun e w' => e = .returned (.bool r) ∧ w = w' := by subst hr; rw [← toList_data]; exact word_any s w
theorem u8_le (s : ByteArray) (k : Nat) (h : k < s.size) : (0 : Int) ≤ s[k].toNat ∧ (s[k].toNat : Int) ≤ 255 := by
  have := UInt8.toNat_lt s[k]
  omega
theorem ne_nil {s : ByteArray} (h : 0 < s.size) : (s.toList == []) = false := by
  rw [toList_data]
  have hl : s.data.toList.length = s.size := by simp
  apply beq_no
  intro e
  rw [e] at hl
  simp at hl
  omega
theorem empty_of {s : ByteArray} (h : s.size = 0) : s = ByteArray.empty := by
  have : s.data.toList = [] := List.eq_nil_of_length_eq_zero (by simpa using h)
  cases s with | mk d => simp at this; subst this; rfl
theorem headD_of {s : ByteArray} (h0 : 0 < s.size) : s.data.toList.headD 0 = s[0] := by
  rw [List.headD_eq_head?_getD, List.head?_eq_getElem?, List.getElem?_eq_getElem (by simpa using h0), sd s 0 h0]; rfl
set_option maxHeartbeats 800000 in
theorem name_any (s : ByteArray) (w : World) :
    Calls Tryd.prog 53 #[.string s] w (NameP s.data.toList w) := by
  by_cases h0 : s.size = 0
  · obtain rfl := empty_of h0
    clear h0
    go_enter Tryd.func53, Tryd.ntmps53
    go_wp2
    go_ret
    exact name_no nameB_nil
  have p0 : 0 < s.size := by omega
  have hne := ne_nil p0
  clear h0
  by_cases h1 : 16 < s.size
  · go_enter Tryd.func53, Tryd.ntmps53
    go_wp2
    go_ret
    exact name_no (nameB_long (by simpa using h1))
  have p1 : s.size ≤ 16 := by omega
  clear h1
  obtain ⟨b0, b1⟩ := u8_le s 0 p0
  by_cases hd : isDig s[0].toNat = true
  · have HD := Lib.hid hd
    clear hd
    go_enter Tryd.func53, Tryd.ntmps53
    go_wp2_with (go_at_call 72; refine (digit_is _ true _ HD.out).mono ?_; rintro e w' ⟨rfl, rfl⟩)
    go_ret
    exact name_no (nameB_dig (by rw [headD_of p0]; exact HD.out))
  have hd' : isDig s[0].toNat = false := by simpa using hd
  have HD := Lib.hid hd'
  clear hd hd'
  by_cases hw : wordB s.data.toList = true
  · have HW := Lib.hid hw
    clear hw
    go_enter Tryd.func53, Tryd.ntmps53
    go_wp2_with (first
      | (go_at_call 72; refine (digit_is _ false _ HD.out).mono ?_; rintro e w' ⟨rfl, rfl⟩)
      | (go_at_call 73; refine (word_is _ true _ HW.out).mono ?_; rintro e w' ⟨rfl, rfl⟩))
    go_ret
    exact name_no (nameB_word HW.out)
  have hw' : wordB s.data.toList = false := by simpa using hw
  have HW := Lib.hid hw'
  clear hw hw'
  go_enter Tryd.func53, Tryd.ntmps53
  go_wp2_with (first
    | (go_at_call 72; refine (digit_is _ false _ HD.out).mono ?_; rintro e w' ⟨rfl, rfl⟩)
    | (go_at_call 73; refine (word_is _ false _ HW.out).mono ?_; rintro e w' ⟨rfl, rfl⟩))
  go_loop [22] (fun i => ∃ k : Nat, k ≤ s.size ∧ i = .int .i64 k ∧ Hid (AllN s k)) (fun i => s.size - (intOf i).toNat)
  case atStart => exact ⟨0, by omega, rfl, AllN.zero s⟩
  case round =>
    obtain ⟨k, hk, rfl, ha⟩ := hrel
    by_cases hlt : k < s.size
    · obtain ⟨c0, c1⟩ := u8_le s k hlt
      obtain ⟨bl, hbl⟩ : ∃ b, isLet s[k].toNat = b := ⟨_, rfl⟩
      obtain ⟨bd, hbd⟩ : ∃ b, isDig s[k].toNat = b := ⟨_, rfl⟩
      have HBL := Lib.hid hbl
      have HBD := Lib.hid hbd
      clear hbl hbd
      cases bl with
      | true =>
        go_wp2_with (first
          | (go_at_call 74; refine (letter_is _ true _ HBL.out).mono ?_; rintro e w' ⟨rfl, rfl⟩))
        go_round
        case rel => exact ⟨k + 1, by omega, by go_num, ha.out.succ hlt (by rw [HBL.out]; rfl)⟩
        case measure => simp [intOf]; omega
      | false =>
        cases bd with
        | true =>
          go_wp2_with (first
            | (go_at_call 74; refine (letter_is _ false _ HBL.out).mono ?_; rintro e w' ⟨rfl, rfl⟩)
            | (go_at_call 72; refine (digit_is _ true _ HBD.out).mono ?_; rintro e w' ⟨rfl, rfl⟩))
          go_round
          case rel => exact ⟨k + 1, by omega, by go_num, ha.out.succ hlt (by rw [HBL.out, HBD.out]; rfl)⟩
          case measure => simp [intOf]; omega
        | false =>
          go_wp2_with (first
            | (go_at_call 74; refine (letter_is _ false _ HBL.out).mono ?_; rintro e w' ⟨rfl, rfl⟩)
            | (go_at_call 72; refine (digit_is _ false _ HBD.out).mono ?_; rintro e w' ⟨rfl, rfl⟩))
          go_ret
          exact name_no (nameB_bad (k := k) (by simpa using hlt) (by rw [sd s k hlt]; unfold okc; rw [HBL.out, HBD.out]; rfl))
    · have hk' : k = s.size := by omega
      subst hk'
      clear hlt
      go_wp2
      go_ret
      exact name_yes' (nameB_yes p0 p1 HD.out HW.out ha.out)
theorem name_is (s : ByteArray) (r : Bool) (w : World) (hr : nameB s.data.toList = r) :
    Calls Tryd.prog 53 #[.string s] w fun e w' => e = .returned (.bool r) ∧ w = w' := by subst hr; exact name_any s w
end Go.Proofs.YtookojgemipakaaDoor.Sch
