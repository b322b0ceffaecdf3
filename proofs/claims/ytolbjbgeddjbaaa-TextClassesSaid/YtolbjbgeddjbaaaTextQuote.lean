/- The Reader's Quoted and Two: a text between marks, with its marks; a text of two bytes. -/
import Derived.Test.YtolbjbgeddjbaaaTextRun
namespace Go.Proofs.Ytolbjbgeddjbaaa.Text
open Go.RowKit Go.Proofs.Ytolbjbgeddjbaaa
set_option linter.unusedVariables false

/-- Where a text between marks ends, from place i on, of which the bytes are given; 0: it does not. -/
def qscan : List UInt8 → Nat → Nat
  | [], _ => 0
  | c :: r, i => if c = 39 then (match r with | [] => i + 1 | d :: r' => if d = 39 then qscan r' (i + 2) else i + 1) else qscan r (i + 1)
def qlen : List UInt8 → Nat
  | [] => 0
  | c :: r => if c = 39 then qscan r 1 else 0
theorem qscan_far (l : List UInt8) (i : Nat) (h : l.length ≤ i) (j : Nat) : qscan (l.drop i) j = 0 := by rw [List.drop_of_length_le h]; rfl
theorem qscan_no (l : List UInt8) (i j : Nat) (h : i < l.length) (hc : l[i] ≠ 39) : qscan (l.drop i) j = qscan (l.drop (i + 1)) (j + 1) := by
  rw [List.drop_eq_getElem_cons h]
  generalize l.drop (i + 1) = r
  cases r <;> simp [qscan, hc]
theorem qscan_last (l : List UInt8) (i j : Nat) (h : i + 1 = l.length) (hc : l[i] = 39) : qscan (l.drop i) j = j + 1 := by
  rw [List.drop_eq_getElem_cons (by omega), List.drop_of_length_le (by omega)]
  simp [qscan, hc]
theorem qscan_end (l : List UInt8) (i j : Nat) (h : i + 1 < l.length) (hc : l[i] = 39) (hd : l[i + 1] ≠ 39) : qscan (l.drop i) j = j + 1 := by
  rw [List.drop_eq_getElem_cons (by omega), List.drop_eq_getElem_cons h]
  simp [qscan, hc, hd]
theorem qscan_two (l : List UInt8) (i j : Nat) (h : i + 1 < l.length) (hc : l[i] = 39) (hd : l[i + 1] = 39) : qscan (l.drop i) j = qscan (l.drop (i + 2)) (j + 2) := by
  rw [List.drop_eq_getElem_cons (by omega), List.drop_eq_getElem_cons h]
  simp [qscan, hc, hd]
theorem byte_eq (b : UInt8) : ((b.toNat : Int) == 39) = decide (b = 39) := by
  rw [Bool.eq_iff_iff]; simp [← UInt8.toNat_inj]; omega
theorem byte_ne (b : UInt8) : ((b.toNat : Int) != 39) = !decide (b = 39) := by
  unfold bne; rw [byte_eq]
theorem nat_eq (a b : Nat) (h : a ≠ b) : ((a : Int) == (b : Int)) = false := by rw [beq_eq_false_iff_ne]; omega

set_option maxHeartbeats 1000000 in
theorem qlen_any (s : ByteArray) (w : World) (hs : s.size ≤ 4611686018427387904) :
    Calls Try.prog 42 #[.string s] w fun e w' => e = .returned (.int .i64 (qlen s.data.toList)) ∧ w = w' := by
  have hlen : s.data.toList.length = s.size := by simp
  rcases Nat.eq_zero_or_pos s.size with h0 | h0
  · have he : s.data.toList = [] := List.eq_nil_of_length_eq_zero (by omega)
    have hq : qlen s.data.toList = 0 := by rw [he]; rfl
    have HQ := Lib.hid hq
    have hem : s.toList.isEmpty = true := by rw [ByteArray.toList_eq, he]; rfl
    clear he hlen hq
    go_enter Try.func42, Try.ntmps42
    go_wp2
    go_ret
    exact ⟨ret_int (by rw [HQ.out]; rfl), rfl⟩
  · have hem : s.toList.isEmpty = false := by
      rw [ByteArray.toList_eq]
      cases hd : s.data.toList with
      | nil => rw [hd] at hlen; simp at hlen; omega
      | cons a b => rfl
    have hcons : s.data.toList = s[0] :: s.data.toList.drop 1 := by
      have := List.drop_eq_getElem_cons (l := s.data.toList) (i := 0) (by omega)
      simp only [List.drop_zero] at this
      rw [this]; simp; rfl
    have HC := Lib.hid hcons
    have HL := Lib.hid hlen
    clear hcons hlen
    by_cases h39 : s[0] = 39
    · have e1 : (((s[0]).toNat : Int) == 39) = true := by rw [byte_eq]; simpa using h39
      have e2 : (((s[0]).toNat : Int) != 39) = false := by rw [byte_ne]; simpa using h39
      have HQ : Hid (qlen s.data.toList = qscan (s.data.toList.drop 1) 1) := by
        unfold Hid
        rw [HC.out]
        simp [qlen, h39]
      clear h39
      go_enter Try.func42, Try.ntmps42
      go_wp2
      go_loop [3] (fun i => ∃ j : Nat, 1 ≤ j ∧ j ≤ s.size ∧ i = .int .i64 j ∧ Hid (qscan (s.data.toList.drop j) j = qlen s.data.toList)) (fun i => s.size - (intOf i).toNat)
      case atStart => exact ⟨1, by omega, by omega, rfl, HQ.out.symm⟩
      case round =>
        obtain ⟨j, hj0, hj, rfl, hq⟩ := hrel
        by_cases hlt : j < s.size
        · by_cases hc : s[j] = 39
          · have f1 : (((s[j]).toNat : Int) == 39) = true := by rw [byte_eq]; simpa using hc
            have f2 : (((s[j]).toNat : Int) != 39) = false := by rw [byte_ne]; simpa using hc
            have HCJ := Lib.hid hc
            clear hc
            by_cases hl : j + 1 = s.size
            · have f3 : ((j : Int) + 1 == (s.size : Int)) = true := by rw [beq_iff_eq]; omega
              have HX : Hid (qlen s.data.toList = j + 1) := hq.out.symm.trans (qscan_last s.data.toList j j (by have := HL.out; omega) ((sd s j hlt _).trans HCJ.out))
              have HLJ := Lib.hid hl
              clear hl
              go_wp2
              go_ret
              exact ⟨ret_int (by rw [HX.out]; rfl), rfl⟩
            · have f3 : ((j : Int) + 1 == (s.size : Int)) = false := by rw [beq_eq_false_iff_ne]; omega
              have hl2 : j + 1 < s.size := by omega
              clear hl
              by_cases hd : s[j + 1] = 39
              · have g1 : (((s[j + 1]).toNat : Int) == 39) = true := by rw [byte_eq]; simpa using hd
                have g2 : (((s[j + 1]).toNat : Int) != 39) = false := by rw [byte_ne]; simpa using hd
                have HX : Hid (qscan (s.data.toList.drop (j + 2)) (j + 2) = qlen s.data.toList) := (qscan_two s.data.toList j j (by have := HL.out; omega) ((sd s j hlt _).trans HCJ.out) ((sd s (j + 1) hl2 _).trans hd)).symm.trans hq.out
                clear hd
                go_wp2
                go_round
                case rel => exact ⟨j + 2, by omega, by omega, by go_num, HX⟩
                case measure => simp [intOf]; omega
              · have g1 : (((s[j + 1]).toNat : Int) == 39) = false := by rw [byte_eq]; simpa using hd
                have g2 : (((s[j + 1]).toNat : Int) != 39) = true := by rw [byte_ne]; simpa using hd
                have HX : Hid (qlen s.data.toList = j + 1) := hq.out.symm.trans (qscan_end s.data.toList j j (by have := HL.out; omega) ((sd s j hlt _).trans HCJ.out) (by rw [sd s (j + 1) hl2]; exact hd))
                clear hd
                go_wp2
                go_ret
                exact ⟨ret_int (by rw [HX.out]; rfl), rfl⟩
          · have f1 : (((s[j]).toNat : Int) == 39) = false := by rw [byte_eq]; simpa using hc
            have f2 : (((s[j]).toNat : Int) != 39) = true := by rw [byte_ne]; simpa using hc
            have HX : Hid (qscan (s.data.toList.drop (j + 1)) (j + 1) = qlen s.data.toList) := (qscan_no s.data.toList j j (by have := HL.out; omega) (by rw [sd s j hlt]; exact hc)).symm.trans hq.out
            clear hc
            go_wp2
            go_round
            case rel => exact ⟨j + 1, by omega, by omega, by go_num, HX⟩
            case measure => simp [intOf]; omega
        · have HX : Hid (qlen s.data.toList = 0) := hq.out.symm.trans (qscan_far s.data.toList j (by have := HL.out; omega) j)
          go_wp2
          go_ret
          exact ⟨ret_int (by rw [HX.out]; rfl), rfl⟩
    · have e1 : (((s[0]).toNat : Int) == 39) = false := by rw [byte_eq]; simpa using h39
      have e2 : (((s[0]).toNat : Int) != 39) = true := by rw [byte_ne]; simpa using h39
      have HQ : Hid (qlen s.data.toList = 0) := by
        unfold Hid
        rw [HC.out]
        simp [qlen, h39]
      clear h39
      go_enter Try.func42, Try.ntmps42
      go_wp2
      go_ret
      exact ⟨ret_int (by rw [HQ.out]; rfl), rfl⟩
end Go.Proofs.Ytolbjbgeddjbaaa.Text
