/- The Reader's Quoted and Two: what they hand back and what they leave. -/
import Derived.Test.YtolbjbgeddjbaaaTextQuote
namespace Go.Proofs.Ytolbjbgeddjbaaa.Text
open Go.RowKit Go.Proofs.Ytolbjbgeddjbaaa
set_option linter.unusedVariables false

theorem qscan_le : ∀ (l : List UInt8) (i : Nat), qscan l i = 0 ∨ (i < qscan l i ∧ qscan l i ≤ i + l.length)
  | [], _ => .inl rfl
  | [c], i => by
    by_cases h : c = 39
    · rw [show qscan [c] i = i + 1 from by simp [qscan, h]]; exact .inr (by simp)
    · rw [show qscan [c] i = 0 from by simp [qscan, h]]; exact .inl rfl
  | c :: d :: r, i => by
    have h1 := qscan_le r (i + 2)
    have h2 := qscan_le (d :: r) (i + 1)
    by_cases h : c = 39
    · by_cases g : d = 39
      · rw [show qscan (c :: d :: r) i = qscan r (i + 2) from by simp [qscan, h, g]]
        simp only [List.length_cons]; omega
      · rw [show qscan (c :: d :: r) i = i + 1 from by simp [qscan, h, g]]
        simp only [List.length_cons]; omega
    · rw [show qscan (c :: d :: r) i = qscan (d :: r) (i + 1) from by simp [qscan, h]]
      simp only [List.length_cons] at h2 ⊢; omega
theorem qlen_le (l : List UInt8) : qlen l ≤ l.length := by
  cases l with
  | nil => exact Nat.le_refl _
  | cons c r =>
    have h := qscan_le r 1
    by_cases hc : c = 39
    · rw [show qlen (c :: r) = qscan r 1 from if_pos hc]
      simp only [List.length_cons]; omega
    · rw [show qlen (c :: r) = 0 from if_neg hc]
      exact Nat.zero_le _
/-- How many bytes of a text, from a place on, stand between marks. -/
def quN (s : ByteArray) (k : Nat) : Nat := qlen (s.data.toList.drop k)
theorem quN_le (s : ByteArray) (k : Nat) (h : k ≤ s.size) : k + quN s k ≤ s.size := by
  have := qlen_le (s.data.toList.drop k)
  unfold quN
  simp at this
  omega
theorem ext_list (s : ByteArray) (k : Nat) : (s.extract k s.size).data.toList = s.data.toList.drop k := Lib.extract_to_end s k
set_option maxHeartbeats 400000 in
theorem quoted_any (b k : Nat) (s : ByteArray) (w : World) (hr : Rd w b s k) (hk : k ≤ s.size) (hs : s.size ≤ 4611686018427387904) :
    Calls Try.prog 28 #[.pointer (some ⟨b, 0, none⟩)] w fun e w' => e = .returned (.tuple #[.string (s.extract k (k + quN s k)), .bool (decide (0 < quN s k))]) ∧ Rd w' b s (k + quN s k) ∧ w.grownBy w' (some b) := by
  have hq := quN_le s k hk
  have HE : Hid (qlen (s.extract k s.size).data.toList = quN s k) := congrArg qlen (ext_list s k)
  generalize quN s k = q at hq HE ⊢
  rcases Nat.eq_zero_or_pos q with h0 | h0
  · subst h0
    go_enter Try.func28, Try.ntmps28
    go_wp2_with fail
    refine (rest_any b k s w hr hk (by omega)).mono ?_
    rintro e w' ⟨rfl, n, rfl⟩
    go_wp2_with fail
    refine (qlen_any _ _ (by rw [ByteArray.size_extract]; omega)).mono ?_
    rintro e w' ⟨rfl, rfl⟩
    rw [HE.out]
    go_wp2_with fail
    refine (take_any b k 0 s _ (Row.drewN hr n) (by omega) (by omega)).mono ?_
    rintro e w1 ⟨rfl, hr1, hg1⟩
    go_wp2
    go_ret2
    exact ⟨by simp, hr1, grown_trans (grown_drewN _ n _) hg1⟩
  · go_enter Try.func28, Try.ntmps28
    go_wp2_with fail
    refine (rest_any b k s w hr hk (by omega)).mono ?_
    rintro e w' ⟨rfl, n, rfl⟩
    go_wp2_with fail
    refine (qlen_any _ _ (by rw [ByteArray.size_extract]; omega)).mono ?_
    rintro e w' ⟨rfl, rfl⟩
    rw [HE.out]
    go_wp2_with fail
    refine (take_any b k q s _ (Row.drewN hr n) (by omega) (by omega)).mono ?_
    rintro e w1 ⟨rfl, hr1, hg1⟩
    go_wp2
    go_ret2
    exact ⟨by simp [h0], hr1, grown_trans (grown_drewN _ n _) hg1⟩
theorem quoted_nil (w : World) :
    Calls Try.prog 28 #[.pointer none] w fun e w' => e = .returned (.tuple #[.string ⟨#[]⟩, .bool false]) ∧ w = w' := by
  go_enter Try.func28, Try.ntmps28
  go_wp2_with fail
  refine (rest_nil w).mono ?_
  rintro e w' ⟨rfl, rfl⟩
  go_wp2_with fail
  refine (qlen_any ⟨#[]⟩ _ (by decide)).mono ?_
  rintro e w' ⟨rfl, rfl⟩
  rw [show qlen (ByteArray.mk #[]).data.toList = 0 from rfl]
  go_wp2_with fail
  refine (take_none _).mono ?_
  rintro e w1 ⟨rfl, rfl⟩
  go_wp2
  go_ret2
  exact ⟨rfl, rfl⟩

/-- Is a text of two bytes the next one? -/
def twoB (s : ByteArray) (k : Nat) (p : ByteArray) : Bool := decide (p.size = 2) && Lib.hasPrefix (s.data.toList.drop k) p.data.toList
def twoK (s : ByteArray) (k : Nat) (p : ByteArray) : Nat := if twoB s k p = true then k + 2 else k
theorem two_le (s : ByteArray) (k : Nat) (p : ByteArray) (h : Lib.hasPrefix (s.data.toList.drop k) p.data.toList = true) (hp : p.size = 2) : k + 2 ≤ s.size := by
  unfold Lib.hasPrefix at h
  have := (List.isPrefixOf_iff_prefix.1 h).length_le
  simp at this
  omega
theorem prefix_is (s p : ByteArray) (w : World) (b : Bool) (h : Lib.hasPrefix s.data.toList p.data.toList = b) :
    Calls Try.prog 43 #[.string s, .string p] w fun e w' => e = .returned (.bool b) ∧ w = w' :=
  (Try.strings_HasPrefix s p w).mono fun _ _ ⟨h1, h2⟩ => ⟨h1.trans (by rw [h]), h2.symm⟩
set_option maxHeartbeats 400000 in
theorem two_any (b k : Nat) (s p : ByteArray) (w : World) (hr : Rd w b s k) (hk : k ≤ s.size) (hs : s.size ≤ 9223372036854775807) (hp : p.size ≤ 9223372036854775807) :
    Calls Try.prog 29 #[.pointer (some ⟨b, 0, none⟩), .string p] w fun e w' => e = .returned (.bool (twoB s k p)) ∧ Rd w' b s (twoK s k p) ∧ w.grownBy w' (some b) := by
  by_cases h2 : p.size = 2
  · have e2 : ((p.size : Int) != 2) = false := by simp [h2]
    rcases hh : Lib.hasPrefix (s.data.toList.drop k) p.data.toList with _ | _
    · have H1 : Hid (twoB s k p = false) := by unfold Hid twoB; rw [hh]; simp
      have H2 : Hid (twoK s k p = k) := if_neg (by rw [H1.out]; simp)
      have HH : Hid (Lib.hasPrefix (s.extract k s.size).data.toList p.data.toList = false) := by unfold Hid; rw [ext_list]; exact hh
      clear hh h2
      go_enter Try.func29, Try.ntmps29
      go_wp2_with (first
        | (go_at_call 40; refine (rest_any b k s w hr hk hs).mono ?_; rintro e w' ⟨rfl, n, rfl⟩)
        | (go_at_call 43; refine (prefix_is _ _ _ _ HH.out).mono ?_; rintro e w' ⟨rfl, rfl⟩))
      go_ret
      exact ⟨ret_bool H1.out.symm, by rw [H2.out]; exact Row.drewN hr n, grown_drewN _ n _⟩
    · have hle := two_le s k p hh h2
      have H1 : Hid (twoB s k p = true) := by unfold Hid twoB; rw [hh]; simp [h2]
      have H2 : Hid (twoK s k p = k + 2) := if_pos H1.out
      have HH : Hid (Lib.hasPrefix (s.extract k s.size).data.toList p.data.toList = true) := by unfold Hid; rw [ext_list]; exact hh
      clear hh h2
      go_enter Try.func29, Try.ntmps29
      go_wp2_with (first
        | (go_at_call 40; refine (rest_any b k s w hr hk hs).mono ?_; rintro e w' ⟨rfl, n, rfl⟩)
        | (go_at_call 43; refine (prefix_is _ _ _ _ HH.out).mono ?_; rintro e w' ⟨rfl, rfl⟩)
        | (go_at_call 39; refine (take_any b k 2 s _ (Row.drewN hr n) hle hs).mono ?_; rintro e w1 ⟨rfl, hr1, hg1⟩))
      go_ret
      exact ⟨ret_bool H1.out.symm, by rw [H2.out]; exact hr1, grown_trans (grown_drewN _ n _) hg1⟩
  · have e2 : ((p.size : Int) != 2) = true := by rw [bne_iff_ne]; omega
    have H1 : Hid (twoB s k p = false) := by unfold Hid twoB; simp [h2]
    have H2 : Hid (twoK s k p = k) := if_neg (by rw [H1.out]; simp)
    clear h2
    go_enter Try.func29, Try.ntmps29
    go_wp2
    go_ret
    exact ⟨ret_bool H1.out.symm, by rw [H2.out]; exact hr, grown_refl _ _⟩
theorem two_nil (p : ByteArray) (w : World) (hp : p.size = 2) (hh : Lib.hasPrefix [] p.data.toList = false) :
    Calls Try.prog 29 #[.pointer none, .string p] w fun e w' => e = .returned (.bool false) ∧ w = w' := by
  have e2 : ((p.size : Int) != 2) = false := by simp [hp]
  have HH : Hid (Lib.hasPrefix (ByteArray.mk #[]).data.toList p.data.toList = false) := hh
  clear hh hp
  go_enter Try.func29, Try.ntmps29
  go_wp2_with (first
    | (go_at_call 40; refine (rest_nil w).mono ?_; rintro e w' ⟨rfl, rfl⟩)
    | (go_at_call 43; refine (prefix_is _ _ _ _ HH.out).mono ?_; rintro e w' ⟨rfl, rfl⟩))
  go_ret
  exact ⟨rfl, rfl⟩
theorem run_nil (g o n c : Nat) (cl : List Int) (w : World) :
    Calls Try.prog 24 #[.pointer none, .slice (some ⟨g, o, none⟩) n c] w fun e w' => e = .returned (.string ⟨#[]⟩) ∧ w = w' := by
  go_enter Try.func24, Try.ntmps24
  go_wp2_with (go_at_call 40; refine (rest_nil w).mono ?_; rintro e w' ⟨rfl, rfl⟩)
  refine wp_loop_rounds 1 ?_
  rw [rounds_succ]
  go_wp2_with (go_at_call 39; refine (take_none _).mono ?_; rintro e w' ⟨rfl, rfl⟩)
  go_ret
  exact ⟨rfl, rfl⟩
end Go.Proofs.Ytolbjbgeddjbaaa.Text
