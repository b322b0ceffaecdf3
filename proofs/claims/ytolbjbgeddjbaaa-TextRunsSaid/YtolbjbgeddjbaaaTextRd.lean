/- The Reader's calls: what each hands back, and what it leaves of the reader. -/
import Derived.Test.YtolbjbgeddjbaaaTextClass
import Derived.Test.YtolbjbgeddjbaaaMem
import Derived.Lib.IndexBytes
namespace Go.Proofs.Ytolbjbgeddjbaaa.Text
open Go.RowKit Go.Proofs.Ytolbjbgeddjbaaa
set_option linter.unusedVariables false

/-- A reader: its text, and where it is. -/
def Rd (w : World) (b : Nat) (s : ByteArray) (k : Nat) : Prop := Row w b 68 #[.string s, .int .i64 k]
theorem Rd.c0 {w : World} {b k : Nat} {s : ByteArray} (h : Rd w b s k) : w.cell? ⟨b, 0, none⟩ = some (.string s) := (Row.cell h 0).trans rfl
theorem Rd.c1 {w : World} {b k : Nat} {s : ByteArray} (h : Rd w b s k) : w.cell? ⟨b, 1, none⟩ = some (.int .i64 k) := (Row.cell h 1).trans rfl
theorem Rd.f1 {w : World} {b k : Nat} {s : ByteArray} (h : Rd w b s k) : w.frozen? ⟨b, 1, none⟩ = false := Row.free h 1

set_option maxHeartbeats 400000 in
theorem new_any (s : ByteArray) (w : World) :
    Calls Try.prog 22 #[.string s] w fun e w' => e = .returned (.pointer (some ⟨w.heap.size, 0, none⟩)) ∧ w' = w.alloc (.cells #[.string s, .int .i64 0] 68) := by
  go_enter Try.func22, Try.ntmps22
  go_wp2
  go_ret
  exact ⟨rfl, rfl⟩

set_option maxHeartbeats 400000 in
theorem rest_any (b k : Nat) (s : ByteArray) (w : World) (hr : Rd w b s k) (hk : k ≤ s.size) (hs : s.size ≤ 9223372036854775807) :
    Calls Try.prog 40 #[.pointer (some ⟨b, 0, none⟩)] w fun e w' => e = .returned (.string (s.extract k s.size)) ∧ ∃ n, w' = w.drewN n := by
  have h0 := hr.c0
  have h1 := hr.c1
  have HR := Lib.hid hr
  clear hr
  go_enter Try.func40, Try.ntmps40
  go_wp2
  go_quiet (fail)
  go_wp2
  go_ret
  exact ⟨rfl, _, rfl⟩
theorem rest_nil (w : World) :
    Calls Try.prog 40 #[.pointer none] w fun e w' => e = .returned (.string ⟨#[]⟩) ∧ w = w' := by
  go_enter Try.func40, Try.ntmps40
  go_wp2
  go_ret
  exact ⟨rfl, rfl⟩

theorem at_any (b k : Nat) (s : ByteArray) (w : World) (hr : Rd w b s k) :
    Calls Try.prog 25 #[.pointer (some ⟨b, 0, none⟩)] w fun e w' => e = .returned (.int .i64 k) ∧ w = w' := by
  have h1 := hr.c1
  have HR := Lib.hid hr
  clear hr
  go_enter Try.func25, Try.ntmps25
  go_wp2
  go_ret
  exact ⟨rfl, rfl⟩
theorem at_nil (w : World) :
    Calls Try.prog 25 #[.pointer none] w fun e w' => e = .returned (.int .i64 0) ∧ w = w' := by
  go_enter Try.func25, Try.ntmps25
  go_wp2
  go_ret
  exact ⟨rfl, rfl⟩

theorem left_any (b k : Nat) (s : ByteArray) (w : World) (hr : Rd w b s k) (hk : k ≤ s.size) (hs : s.size ≤ 9223372036854775807) :
    Calls Try.prog 26 #[.pointer (some ⟨b, 0, none⟩)] w fun e w' => e = .returned (.int .i64 ((s.size : Int) - k)) ∧ ∃ n, w' = w.drewN n := by
  go_enter Try.func26, Try.ntmps26
  go_wp2_with (go_at_call 40; refine (rest_any b k s w hr hk hs).mono ?_; rintro e w' ⟨rfl, n, rfl⟩)
  go_ret
  exact ⟨ret_int (by omega), _, rfl⟩
theorem left_nil (w : World) :
    Calls Try.prog 26 #[.pointer none] w fun e w' => e = .returned (.int .i64 0) ∧ w = w' := by
  go_enter Try.func26, Try.ntmps26
  go_wp2_with (go_at_call 40; refine (rest_nil _).mono ?_; rintro e w' ⟨rfl, rfl⟩)
  go_ret
  exact ⟨rfl, rfl⟩
end Go.Proofs.Ytolbjbgeddjbaaa.Text
