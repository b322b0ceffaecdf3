/- A writer's calls: numbers with signs, texts, truths. -/
import Derived.Test.YtpgacadnmekdhaaCdB
namespace Go.Proofs.Ytpgacadnmekdhaa.Cd
open Go.RowKit Go.Proofs.Ytpgacadnmekdhaa
set_option linter.unusedVariables false
set_option maxRecDepth 100000
theorem zig_neg {x : Int} (h : x < 0) : zig x = (2 * (-1 - x) + 1).toNat := by unfold zig; rw [if_neg (by omega)]
theorem zig_pos {x : Int} (h : 0 ≤ x) : zig x = (2 * x).toNat := by unfold zig; rw [if_pos h]
theorem zig_lt {x : Int} (h : -9223372036854775808 ≤ x ∧ x ≤ 9223372036854775807) : zig x < 18446744073709551616 := by
  unfold zig
  split <;> omega
theorem lb_conv (s : ByteArray) (w : World) (c : Nat) (fr : Nat × Nat) : Lb ((w.alloc (.cells (bytesRow s c) 5 fr)).drewN 1) (some ⟨w.heap.size, 0, none⟩) s.data.toList := fun k x hk => by
  refine ⟨w.heap.size, 0, rfl, by simp, ?_⟩
  have h1 : ((w.alloc (.cells (bytesRow s c) 5 fr)).drewN 1).heap[w.heap.size]? = some (.cells (bytesRow s c) 5 fr) := heap_alloc_new w _
  rw [cell_of_row _ _ _ _ _ _ h1]
  unfold bytesRow
  have hk2 : k < s.data.size := by simpa using (List.getElem?_eq_some_iff.1 hk).1
  have hk3 : s.data[k]? = some x := by simpa using hk
  rw [Nat.zero_add, Array.getElem?_append_left (by simpa using hk2), Array.getElem?_map, hk3]
  rfl
section
variable (w0 w : World) (b : Nat) (bs : List UInt8) (h : Wr w0 w b bs)
include h
theorem int_any (x : Int) (hx : -9223372036854775808 ≤ x ∧ x ≤ 9223372036854775807) (hc : bs.length + 10 ≤ 1000000) :
    Calls Try.prog 33 #[.pointer (some ⟨b, 0, none⟩), .int .i64 x] w fun e w' => e = .returned (.tuple #[]) ∧ Wr w0 w' b (bs ++ ub (zig x)) := by
  have H := Lib.hid h
  clear h
  have hz := zig_lt hx
  go_enter Try.func33, Try.ntmps33
  by_cases hn : x < 0
  · go_wp2_with fail
    have e1 : (2 * (-1 - x) + 1 : Int) = ((zig x : Nat) : Int) := by rw [zig_neg hn]; omega
    rw [e1]
    refine (uint_any w0 _ b bs H.out (zig x) hz hc).mono ?_
    rintro e w2 ⟨rfl, hw2⟩
    go_wp2
    go_end0
    exact ⟨rfl, hw2⟩
  · have hn1 : 0 ≤ x := by omega
    go_wp2_with fail
    have e1 : (2 * x : Int) = ((zig x : Nat) : Int) := by rw [zig_pos hn1]; omega
    rw [e1]
    refine (uint_any w0 _ b bs H.out (zig x) hz hc).mono ?_
    rintro e w2 ⟨rfl, hw2⟩
    go_wp2
    go_end0
    exact ⟨rfl, hw2⟩
theorem text_any (s : ByteArray) (hs : s.size ≤ 1000) (hc : bs.length + s.size + 10 ≤ 1000000) :
    Calls Try.prog 35 #[.pointer (some ⟨b, 0, none⟩), .string s] w fun e w' => e = .returned (.tuple #[]) ∧ Wr w0 w' b (bs ++ tb s.data.toList) := by
  have H := Lib.hid h
  clear h
  go_enter Try.func35, Try.ntmps35
  go_wp2_with fail
  refine (uint_any w0 _ b bs H.out s.size (by omega) (by omega)).mono ?_
  rintro e w2 ⟨rfl, hw2⟩
  have H2 := Lib.hid hw2
  clear hw2
  have hcv := fun (W : World) => run_bytes_of_string (P := Try.prog) W 9 58 5 s Try.underlying9 Try.underlying58 Try.underlying5
  go_wp2_with fail
  have hlen : s.data.toList.length = s.size := by simp
  have hu := ub_ten (n := s.size) (by omega)
  refine (put_any w0 _ b (bs ++ ub s.size) s.data.toList (Wr.drewN (H2.out.call ((Below.refl _ w2).alloc (Nat.le_refl _) _)) 1) _ s.size _ hlen (lb_conv s w2 _ _) (by rw [List.length_append]; omega)).mono ?_
  rintro e w3 ⟨rfl, hw3⟩
  go_wp2
  go_end0
  refine ⟨rfl, ?_⟩
  unfold tb
  rw [hlen, ← List.append_assoc]
  exact hw3
theorem truth_any (x : Bool) (hc : bs.length + 10 ≤ 1000000) :
    Calls Try.prog 37 #[.pointer (some ⟨b, 0, none⟩), .bool x] w fun e w' => e = .returned (.tuple #[]) ∧ Wr w0 w' b (bs ++ rb x) := by
  have H := Lib.hid h
  clear h
  have h1 : ub 1 = [1] := ub_small (by decide)
  have h0 : ub 0 = [0] := ub_small (by decide)
  have H1 := Lib.hid h1
  have H0 := Lib.hid h0
  clear h1 h0
  go_enter Try.func37, Try.ntmps37
  cases x
  · go_wp2_with fail
    refine (uint_any w0 _ b bs H.out 0 (by omega) hc).mono ?_
    rintro e w2 ⟨rfl, hw2⟩
    go_wp2
    go_end0
    exact ⟨rfl, by rw [H0.out] at hw2; exact hw2⟩
  · go_wp2_with fail
    refine (uint_any w0 _ b bs H.out 1 (by omega) hc).mono ?_
    rintro e w2 ⟨rfl, hw2⟩
    go_wp2
    go_end0
    exact ⟨rfl, by rw [H1.out] at hw2; exact hw2⟩
end
end Go.Proofs.Ytpgacadnmekdhaa.Cd
