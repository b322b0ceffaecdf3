/- The reference's numbers with signs, texts, truths; awake. -/
import Derived.Test.YtpgacadnmekdhaaCdG
namespace Go.Proofs.Ytpgacadnmekdhaa.Cd
open Go.RowKit Go.Proofs.Ytpgacadnmekdhaa
set_option linter.unusedVariables false
set_option maxRecDepth 100000
theorem ref_u (n : Nat) (hn : n < 18446744073709551616) (w : World) : Calls Try.prog 32 #[.int .u64 n] w fun e w' => e = .returned (.string ⟨(ub n).toArray⟩) ∧ Below w.heap.size w w' :=
  ref_uint 9 n w (Nat.lt_trans hn (by decide)) hn
theorem ref_int (x : Int) (hx : -9223372036854775808 ≤ x ∧ x ≤ 9223372036854775807) (w : World) :
    Calls Try.prog 34 #[.int .i64 x] w fun e w' => e = .returned (.string ⟨(ub (zig x)).toArray⟩) ∧ Below w.heap.size w w' := by
  have hz := zig_lt hx
  go_enter Try.func34, Try.ntmps34
  by_cases hn : x < 0
  · go_wp2_with fail
    have e1 : (2 * -(x + 1) + 1 : Int) = ((zig x : Nat) : Int) := by rw [zig_neg hn]; omega
    rw [e1]
    refine (ref_u (zig x) hz _).mono ?_
    rintro e w2 ⟨rfl, hw2⟩
    go_wp2
    go_ret
    exact ⟨rfl, hw2⟩
  · have hn1 : 0 ≤ x := by omega
    go_wp2_with fail
    have e1 : (2 * x : Int) = ((zig x : Nat) : Int) := by rw [zig_pos hn1]; omega
    rw [e1]
    refine (ref_u (zig x) hz _).mono ?_
    rintro e w2 ⟨rfl, hw2⟩
    go_wp2
    go_ret
    exact ⟨rfl, hw2⟩
theorem ref_text (s : ByteArray) (hs : s.size ≤ 1000) (w : World) :
    Calls Try.prog 36 #[.string s] w fun e w' => e = .returned (.string ⟨(tb s.data.toList).toArray⟩) ∧ Below w.heap.size w w' := by
  have hl : s.data.toList.length = s.size := by simp
  obtain ⟨s1, hs1⟩ : ∃ s1 : ByteArray, (⟨(ub s.size).toArray⟩ : ByteArray) = s1 := ⟨_, rfl⟩
  have hz1 : s1.size ≤ 10 := by rw [← hs1]; exact ub_ten (by omega)
  have hcat : (⟨(tb s.data.toList).toArray⟩ : ByteArray) = s1 ++ s := by
    rw [← hs1]
    unfold tb
    rw [hl]
    apply ByteArray.ext
    simp [ByteArray.data_append]
  rw [hcat]
  have HS1 := Lib.hid hs1
  clear hcat hs1
  go_enter Try.func36, Try.ntmps36
  go_wp2_with fail
  refine (ref_u s.size (by omega) _).mono ?_
  rintro e w2 ⟨rfl, hw2⟩
  rw [HS1.out]
  go_wp2
  go_ret
  exact ⟨rfl, hw2⟩
theorem ref_truth (x : Bool) (w : World) :
    Calls Try.prog 38 #[.bool x] w fun e w' => e = .returned (.string ⟨(rb x).toArray⟩) ∧ w = w' := by
  cases x
  · go_enter Try.func38, Try.ntmps38
    go_wp2
    go_ret
    exact ⟨rfl, rfl⟩
  · go_enter Try.func38, Try.ntmps38
    go_wp2
    go_ret
    exact ⟨rfl, rfl⟩
theorem wr_new (w0 w : World) (hb : Below w0.heap.size w0 w) : Wr w0 (w.alloc (.cells #[.slice none 0 0] 60)) w.heap.size [] :=
  ⟨hb.alloc hb.size _, hb.size, _, none, Row.made _ _ _, Seg.nil _ _ _, fun g h => by cases h⟩
theorem awake_any (w : World) : Calls Try.prog 45 #[] w fun e w' => e = .returned (.bool true) ∧ Below w.heap.size w w' := by
  have h300 : ub 300 = [172, 2] := by rw [ub_big (by decide), ub_small (by decide)]; rfl
  have H300 := Lib.hid h300
  clear h300
  go_enter Try.func45, Try.ntmps45
  go_wp2_with fail
  refine (uint_any w _ w.heap.size [] (wr_new w w (Below.refl _ _)) 300 (by decide) (by simp)).mono ?_
  rintro e w1 ⟨rfl, hw1⟩
  rw [H300.out, List.nil_append] at hw1
  have HW1 := Lib.hid hw1
  clear hw1
  go_wp2_with fail
  refine (bytes_any w w1 _ _ HW1.out (by simp)).mono ?_
  rintro e w2 ⟨⟨A2, c2, rfl, h1, h2, h3, h4⟩, hw2⟩
  have HW2 := Lib.hid hw2
  have HL2 := Lib.hid h3
  clear hw2 h3 h4 HW1
  go_wp2_with fail
  refine (read_any A2 2 c2 [172, 2] w2 HL2.out rfl (by decide)).mono ?_
  rintro e w3 ⟨b, rfl, hr, hbge, hb3⟩
  have hR : Rd w3 b (ub 300 ++ []) 0 := by rw [H300.out]; exact hr
  have HR := Lib.hid hR
  have HW3 := Lib.hid (HW2.out.call hb3)
  have hbw : w.heap.size ≤ b := Nat.le_trans HW2.out.be.size hbge
  clear hr hR hb3 HW2 HL2
  go_wp2_with fail
  refine (bytes_any w w3 _ _ HW3.out (by simp)).mono ?_
  rintro e w4 ⟨⟨A4, c4, rfl, h41, h42, h43, h44⟩, hw4⟩
  have hcv := conv_str h43 2 c4 rfl
  have hR4 := HR.out.call h44
  have HR4 := Lib.hid hR4
  have HW4 := Lib.hid hw4
  clear hw4 h43 h44 HR HW3 hR4
  go_wp2_with fail
  refine (uint_take w4 b 300 (by decide) [] 0 HR4.out).mono ?_
  rintro e w5 ⟨rfl, hr5, ht5⟩
  have HR5 := Lib.hid hr5
  have HB5 := Lib.hid (ht5.below HW4.out.be HW4.out.be.size (fun k hk e => by omega))
  clear hr5 ht5 HR4 HW4
  go_wp2_with fail
  refine (left_any _ b [] 0 HR5.out).mono ?_
  rintro e w6 ⟨rfl, rfl⟩
  go_wp2_with fail
  refine (err_any _ b [] 0 HR5.out).mono ?_
  rintro e w6 ⟨rfl, rfl⟩
  go_wp2
  go_ret
  exact ⟨rfl, HB5.out⟩
end Go.Proofs.Ytpgacadnmekdhaa.Cd
