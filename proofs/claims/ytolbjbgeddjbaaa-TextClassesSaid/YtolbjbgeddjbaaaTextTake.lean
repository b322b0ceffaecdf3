/- The Reader's calls that take bytes. -/
import Derived.Test.YtolbjbgeddjbaaaTextRd
namespace Go.Proofs.Ytolbjbgeddjbaaa.Text
open Go.RowKit Go.Proofs.Ytolbjbgeddjbaaa
set_option linter.unusedVariables false

theorem ext_data (s : ByteArray) (a b : Nat) : (s.extract a b).data.toList = (s.data.toList.drop a).take (b - a) := Lib.extract_data s a b
theorem of_list {a b : ByteArray} (h : a.data.toList = b.data.toList) : a = b := by
  apply ByteArray.ext
  exact Array.toList_inj.1 h
theorem ext_ext (s : ByteArray) (k c : Nat) (h : k + c ≤ s.size) : (s.extract k s.size).extract 0 c = s.extract k (k + c) := by
  apply of_list
  rw [ext_data, ext_data, ext_data]
  simp only [List.drop_zero, Nat.sub_zero, Nat.add_sub_cancel_left]
  rw [List.take_take, Nat.min_eq_left (by omega)]
theorem byte_le (b : UInt8) : (b.toNat : Int) ≤ 255 := by have := b.toNat_lt; omega
theorem byte_ge (b : UInt8) : 0 ≤ (b.toNat : Int) := by omega
theorem ext_at (s : ByteArray) (k j : Nat) (h : j < (s.extract k s.size).size) (h' : k + j < s.size) : (s.extract k s.size)[j]'h = s[k + j]'h' := ByteArray.getElem_extract ..
set_option maxHeartbeats 400000 in
theorem take_any (b k c : Nat) (s : ByteArray) (w : World) (hr : Rd w b s k) (hk : k + c ≤ s.size) (hs : s.size ≤ 9223372036854775807) :
    Calls Try.prog 39 #[.pointer (some ⟨b, 0, none⟩), .int .i64 c] w fun e w' => e = .returned (.string (s.extract k (k + c))) ∧ Rd w' b s (k + c) ∧ w.grownBy w' (some b) := by
  have e0 := ext_ext s k c hk
  have HE := Lib.hid e0
  clear e0
  rcases Nat.eq_zero_or_pos c with h0 | h0
  · subst h0
    go_enter Try.func39, Try.ntmps39
    go_wp2_with (go_at_call 40; refine (rest_any b k s w hr (by omega) hs).mono ?_; rintro e w' ⟨rfl, n, rfl⟩)
    go_ret
    exact ⟨ret_str (by rw [← HE.out]; simp), hr, grown_drewN _ _ _⟩
  · have h1 := hr.c1
    have f1 := hr.f1
    have HR := Lib.hid hr
    clear hr
    go_enter Try.func39, Try.ntmps39
    go_wp2_with (go_at_call 40; refine (rest_any b k s w HR.out (by omega) hs).mono ?_; rintro e w' ⟨rfl, n, rfl⟩)
    go_ret
    exact ⟨ret_str HE.out, Row.put (Row.drewN HR.out n) 1 _, grown_trans (grown_drewN _ n _) (grown_set _ _ _ _)⟩
theorem take_none (w : World) :
    Calls Try.prog 39 #[.pointer none, .int .i64 0] w fun e w' => e = .returned (.string ⟨#[]⟩) ∧ w = w' := by
  go_enter Try.func39, Try.ntmps39
  go_wp2_with (go_at_call 40; refine (rest_nil w).mono ?_; rintro e w' ⟨rfl, rfl⟩)
  go_ret
  exact ⟨ret_str rfl, rfl⟩
/-- The class of the next byte. -/
def nextV (s : ByteArray) (k : Nat) : Int := if h : k < s.size then clsV (s[k]).toNat else 0
theorem nextV_yes (s : ByteArray) (k : Nat) (h : k < s.size) : nextV s k = clsV (s[k]).toNat := dif_pos h
theorem nextV_no (s : ByteArray) (k : Nat) (h : ¬ k < s.size) : nextV s k = 0 := dif_neg h
theorem classm_any (b k : Nat) (s : ByteArray) (w : World) (hr : Rd w b s k) (hk : k ≤ s.size) (hs : s.size ≤ 9223372036854775807) :
    Calls Try.prog 27 #[.pointer (some ⟨b, 0, none⟩)] w fun e w' => e = .returned (.int .i64 (nextV s k)) ∧ ∃ n, w' = w.drewN n := by
  by_cases hlt : k < s.size
  · have hz : ((s.size : Int) - (k : Int) == 0) = false := by rw [beq_eq_false_iff_ne]; omega
    have HE := Lib.hid (ext_at s k 0 (by rw [ByteArray.size_extract]; omega) (by omega))
    have HN := Lib.hid (nextV_yes s k hlt)
    go_enter Try.func27, Try.ntmps27
    go_wp2_with (first
      | (go_at_call 26; refine (left_any b k s w hr (by omega) hs).mono ?_; rintro e w' ⟨rfl, n, rfl⟩)
      | (go_at_call 40; refine (rest_any b k s _ (Row.drewN hr n) (by omega) hs).mono ?_; rintro e w' ⟨rfl, m, rfl⟩)
      | (go_at_call 20; refine (class_any _ _ (byte_ge _) (byte_le _)).mono ?_; rintro e w' ⟨rfl, rfl⟩))
    go_ret
    exact ⟨ret_int (by rw [HN.out, HE.out]; rfl), _, rfl⟩
  · have hz : ((s.size : Int) - (k : Int) == 0) = true := by rw [beq_iff_eq]; omega
    have HN := Lib.hid (nextV_no s k hlt)
    go_enter Try.func27, Try.ntmps27
    go_wp2_with (go_at_call 26; refine (left_any b k s w hr (by omega) hs).mono ?_; rintro e w' ⟨rfl, n, rfl⟩)
    go_ret
    exact ⟨ret_int HN.out.symm, _, rfl⟩
theorem classm_nil (w : World) :
    Calls Try.prog 27 #[.pointer none] w fun e w' => e = .returned (.int .i64 0) ∧ w = w' := by
  go_enter Try.func27, Try.ntmps27
  go_wp2_with (go_at_call 26; refine (left_nil w).mono ?_; rintro e w' ⟨rfl, rfl⟩)
  go_ret
  exact ⟨rfl, rfl⟩
/-- The next byte, or 0. -/
def nextB (s : ByteArray) (k : Nat) : Int := if h : k < s.size then (s[k]).toNat else 0
def nextK (s : ByteArray) (k : Nat) : Nat := if k < s.size then k + 1 else k
theorem nextB_yes (s : ByteArray) (k : Nat) (h : k < s.size) : nextB s k = (s[k]).toNat := dif_pos h
theorem nextB_no (s : ByteArray) (k : Nat) (h : ¬ k < s.size) : nextB s k = 0 := dif_neg h
theorem nextK_yes (s : ByteArray) (k : Nat) (h : k < s.size) : nextK s k = k + 1 := if_pos h
theorem nextK_no (s : ByteArray) (k : Nat) (h : ¬ k < s.size) : nextK s k = k := if_neg h
theorem ext_one (s : ByteArray) (k : Nat) (h : 0 < (s.extract k (k + 1)).size) (h' : k < s.size) : (s.extract k (k + 1))[0]'h = s[k]'h' := ByteArray.getElem_extract ..
theorem byte_any (b k : Nat) (s : ByteArray) (w : World) (hr : Rd w b s k) (hk : k ≤ s.size) (hs : s.size ≤ 9223372036854775807) :
    Calls Try.prog 23 #[.pointer (some ⟨b, 0, none⟩)] w fun e w' => e = .returned (.int .u8 (nextB s k)) ∧ Rd w' b s (nextK s k) ∧ w.grownBy w' (some b) := by
  by_cases hlt : k < s.size
  · have hz : ((s.size : Int) - (k : Int) == 0) = false := by rw [beq_eq_false_iff_ne]; omega
    have HE := Lib.hid (ext_one s k (by rw [ByteArray.size_extract]; omega) (by omega))
    have HN := Lib.hid (nextB_yes s k hlt)
    have HK := Lib.hid (nextK_yes s k hlt)
    have hsz : 0 < (s.extract k (k + 1)).size := by rw [ByteArray.size_extract]; omega
    go_enter Try.func23, Try.ntmps23
    go_wp2_with (first
      | (go_at_call 26; refine (left_any b k s w hr (by omega) hs).mono ?_; rintro e w' ⟨rfl, n, rfl⟩)
      | (go_at_call 39; refine (take_any b k 1 s _ (Row.drewN hr n) (by omega) hs).mono ?_; rintro e w1 ⟨rfl, hr1, hg1⟩))
    go_ret
    exact ⟨ret_int (by rw [HN.out, HE.out]), by rw [HK.out]; exact hr1, grown_trans (grown_drewN _ n _) hg1⟩
  · have hz : ((s.size : Int) - (k : Int) == 0) = true := by rw [beq_iff_eq]; omega
    have HN := Lib.hid (nextB_no s k hlt)
    have HK := Lib.hid (nextK_no s k hlt)
    go_enter Try.func23, Try.ntmps23
    go_wp2_with (go_at_call 26; refine (left_any b k s w hr (by omega) hs).mono ?_; rintro e w' ⟨rfl, n, rfl⟩)
    go_ret
    exact ⟨ret_int HN.out.symm, by rw [HK.out]; exact hr, grown_drewN _ _ _⟩
theorem byte_nil (w : World) :
    Calls Try.prog 23 #[.pointer none] w fun e w' => e = .returned (.int .u8 0) ∧ w = w' := by
  go_enter Try.func23, Try.ntmps23
  go_wp2_with (go_at_call 26; refine (left_nil w).mono ?_; rintro e w' ⟨rfl, rfl⟩)
  go_ret
  exact ⟨rfl, rfl⟩
end Go.Proofs.Ytolbjbgeddjbaaa.Text
