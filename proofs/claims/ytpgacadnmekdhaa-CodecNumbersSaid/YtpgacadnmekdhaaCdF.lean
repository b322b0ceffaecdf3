/- A reader takes numbers with signs, texts, truths. -/
import Derived.Test.YtpgacadnmekdhaaCdE
namespace Go.Proofs.Ytpgacadnmekdhaa.Cd
open Go.RowKit Go.Proofs.Ytpgacadnmekdhaa
set_option linter.unusedVariables false
set_option maxRecDepth 100000
section
variable (w : World) (b : Nat) (rest : List UInt8) (er : Int)
theorem int_take (x : Int) (hx : -9223372036854775808 ≤ x ∧ x ≤ 9223372036854775807) (h : Rd w b (ub (zig x) ++ rest) er) :
    Calls Try.prog 41 #[.pointer (some ⟨b, 0, none⟩)] w fun e w' => e = .returned (.int .i64 x) ∧ Rd w' b rest er ∧ Turns w w' (fun k => k = b) := by
  have H := Lib.hid h
  clear h
  have hz := zig_lt hx
  go_enter Try.func41, Try.ntmps41
  go_wp2_with fail
  refine (uint_take _ b (zig x) hz rest er H.out).mono ?_
  rintro e w2 ⟨rfl, hr, ht⟩
  have HR := Lib.hid hr
  have HT := Lib.hid ht
  clear hr ht H
  by_cases hn : x < 0
  · have hzz := zig_neg hn
    obtain ⟨z, hz2⟩ : ∃ z, zig x = z := ⟨_, rfl⟩
    rw [hz2] at hzz hz ⊢
    have h1 : (z : Int) % 2 = 1 := by omega
    have h2 : (z : Int) / 2 = -1 - x := by omega
    clear hzz
    go_wp2
    go_ret
    exact ⟨ret_int (by omega), HR.out, HT.out⟩
  · have hzz := zig_pos (x := x) (by omega)
    obtain ⟨z, hz2⟩ : ∃ z, zig x = z := ⟨_, rfl⟩
    rw [hz2] at hzz hz ⊢
    have h1 : (z : Int) % 2 = 0 := by omega
    have h2 : (z : Int) / 2 = x := by omega
    clear hzz
    go_wp2
    go_ret
    exact ⟨rfl, HR.out, HT.out⟩
theorem truth_take (x : Bool) (h : Rd w b (rb x ++ rest) er) :
    Calls Try.prog 43 #[.pointer (some ⟨b, 0, none⟩)] w fun e w' => e = .returned (.bool x) ∧ Rd w' b rest er ∧ Turns w w' (fun k => k = b) := by
  have h1 : ub 1 = [1] := ub_small (by decide)
  have h0 : ub 0 = [0] := ub_small (by decide)
  cases x
  · have H : Hid (Rd w b (ub 0 ++ rest) er) := by rw [h0]; exact h
    clear h h1 h0
    go_enter Try.func43, Try.ntmps43
    go_wp2_with fail
    refine (uint_take _ b 0 (by omega) rest er H.out).mono ?_
    rintro e w2 ⟨rfl, hr, ht⟩
    have HR := Lib.hid hr
    have HT := Lib.hid ht
    clear hr ht H
    go_wp2
    go_ret
    exact ⟨rfl, HR.out, HT.out⟩
  · have H : Hid (Rd w b (ub 1 ++ rest) er) := by rw [h1]; exact h
    clear h h1 h0
    go_enter Try.func43, Try.ntmps43
    go_wp2_with fail
    refine (uint_take _ b 1 (by omega) rest er H.out).mono ?_
    rintro e w2 ⟨rfl, hr, ht⟩
    have HR := Lib.hid hr
    have HT := Lib.hid ht
    clear hr ht H
    go_wp2
    go_ret
    exact ⟨rfl, HR.out, HT.out⟩
theorem count_take (n : Nat) (hn : n ≤ rest.length) (hn2 : n ≤ 1000000) (h : Rd w b (ub n ++ rest) er) :
    Calls Try.prog 99 #[.pointer (some ⟨b, 0, none⟩), .int .i64 1] w fun e w' => e = .returned (.int .i64 n) ∧ Rd w' b rest er ∧ Turns w w' (fun k => k = b) := by
  have H := Lib.hid h
  clear h
  go_enter Try.func99, Try.ntmps99
  go_wp2_with fail
  refine (uint_take _ b n (by omega) rest er H.out).mono ?_
  rintro e w2 ⟨rfl, hr, ht⟩
  have HR := Lib.hid hr
  have HT := Lib.hid ht
  obtain ⟨A, c, hR, hTc, hc9, hLn⟩ := hr.sl
  clear hr ht H hR hLn
  go_wp2_with fail
  refine (left_any _ b rest er HR.out).mono ?_
  rintro e w' ⟨rfl, rfl⟩
  obtain ⟨r, hr⟩ : ∃ r, rest.length = r := ⟨_, rfl⟩
  rw [hr] at hn hTc ⊢
  have h1 : ¬ (r : Int) < (n : Int) := by omega
  go_wp2
  go_ret
  exact ⟨rfl, HR.out, HT.out⟩
theorem text_take (s : ByteArray) (hs : s.size ≤ 1000) (h : Rd w b (tb s.data.toList ++ rest) er) :
    Calls Try.prog 42 #[.pointer (some ⟨b, 0, none⟩)] w fun e w' => e = .returned (.string s) ∧ Rd w' b rest er ∧ Turns w w' (fun k => k = b) := by
  have hl : s.data.toList.length = s.size := by simp
  have h' : Rd w b (ub s.size ++ (s.data.toList ++ rest)) er := by unfold tb at h; rw [hl, List.append_assoc] at h; exact h
  have H := Lib.hid h'
  clear h h'
  go_enter Try.func42, Try.ntmps42
  go_wp2_with fail
  refine (count_take _ b (s.data.toList ++ rest) er s.size (by rw [List.length_append]; omega) (by omega) H.out).mono ?_
  rintro e w2 ⟨rfl, hr, ht⟩
  have HR := Lib.hid hr
  have HT := Lib.hid ht
  clear hr ht H
  by_cases h0 : s.size = 0
  · have hd : s.data.toList = [] := List.eq_nil_of_length_eq_zero (by rw [hl]; exact h0)
    have hs0 : s = { data := #[] } := by
      cases s with
      | mk d =>
        simp at hd
        rw [hd]
    rw [h0]
    go_wp2
    go_ret
    refine ⟨by rw [hs0]; rfl, ?_, HT.out⟩
    have := HR.out
    rw [hd] at this
    exact this
  · have h1 : ((s.size : Int) == 0) = false := by simpa using h0
    obtain ⟨A, c, hR, hTc, hc9, hLn⟩ := HR.out.sl
    have hxx : (s.data.toList ++ rest)[0]? = some s.data.toList[0] := by rw [List.getElem?_append_left (by omega), List.getElem?_eq_getElem]
    obtain ⟨g, o, rfl, hg, hgb, _⟩ := hLn 0 _ hxx
    have hlen : (s.data.toList ++ rest).length = s.size + rest.length := by rw [List.length_append, hl]
    rw [hlen] at hR hTc
    have c0 := (hR.cell 0).trans rfl
    have f0 := hR.free 0
    have HRR := Lib.hid hR
    have HN := Lib.hid hLn
    have HLL := Lib.hid hlen
    have hlb : ∀ (W : World), Lb W (some ⟨g, o, none⟩) s.data.toList → ∀ cc, (convert 58 9 (.slice (some ⟨g, o, none⟩) s.size cc)).run Try.prog W = .ok (.string s) W := fun W hW cc => conv_str hW s.size cc hl
    have hW2 : Lb w2 (some ⟨g, o, none⟩) s.data.toList := fun k x hk => by
      have hkl : k < s.data.toList.length := (List.getElem?_eq_some_iff.1 hk).1
      obtain ⟨g', o', e, hl', _, hc'⟩ := hLn k x (by rw [List.getElem?_append_left hkl]; exact hk)
      exact ⟨g', o', e, hl', hc'⟩
    have hcv := hlb w2 hW2
    clear hR hLn hxx hlen hlb
    obtain ⟨r, hr⟩ : ∃ r, rest.length = r := ⟨_, rfl⟩
    obtain ⟨sn, hsn⟩ : ∃ sn, s.size = sn := ⟨_, rfl⟩
    have HRN := Lib.hid hr
    have HSN := Lib.hid hsn
    rw [hr] at HRR HLL hTc c0
    rw [hsn] at HRR HLL hTc c0 h1 h0 hcv hl ⊢
    clear hr hsn
    have hsc : sn ≤ c := by omega
    have hsp : 0 < sn := by omega
    rcases Nat.eq_or_lt_of_le hsc with hce | hcl
    · subst hce
      go_wp2
      go_ret
      have hR2 := rest_rd (q := 0) (k := sn - 1) (o' := o) (n' := 0) (c' := 0) (rest := rest) HRR.out HN.out (by rw [hl]; omega) HLL.out hTc hc9 (fun h => by omega) (by omega) (by omega)
      exact ⟨rfl, hR2.1, HT.out.trans hR2.2 (fun k _ e => e)⟩
    · go_wp2
      go_ret
      have hR2 := rest_rd (q := 0) (k := sn - 1) (o' := o + sn) (n' := r) (c' := c - sn) (rest := rest) HRR.out HN.out (by rw [hl]; omega) HLL.out hTc hc9 (fun h => by omega) (by omega) (by omega)
      exact ⟨rfl, hR2.1, HT.out.trans hR2.2 (fun k _ e => e)⟩
end
end Go.Proofs.Ytpgacadnmekdhaa.Cd
