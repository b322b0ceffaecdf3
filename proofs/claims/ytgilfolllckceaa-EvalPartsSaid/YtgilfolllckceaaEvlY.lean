/- A value that may be a constant: what the law makes of any. -/
import Derived.Test.YtgilfolllckceaaEvlC
import Derived.Test.YtgilfolllckceaaTyC
import Derived.Test.YtgilfolllckceaaBits
import Derived.Test.YtgilfolllckceaaEvO
namespace Go.Proofs.Ytgilfolllckceaa.Evl
open Go.RowKit Go.Proofs.Ytgilfolllckceaa Go.Proofs.Ytgilfolllckceaa.Ev Go.Proofs.Ytgilfolllckceaa.Sch Go.Proofs.Ytgilfolllckceaa.Ty Go.Proofs.Ytgilfolllckceaa.Num
set_option linter.unusedVariables false
set_option maxRecDepth 100000
def ValP (w : World) (e : Ending) (w' : World) : Prop := ∃ k i s b c, e = .returned (.agg #[.int .i64 k, .int .i64 i, .string s, .bool b]) ∧ OkV k i s b ∧ In64 i ∧ w' = (w.alloc (.cells c 23)).alloc (.cells #[.int .i64 k, .int .i64 i, .string s, .bool b] 23)
theorem in_zero' : In64 0 := ⟨by decide, by decide⟩
theorem ext_size (s : ByteArray) : (s.extract 0 4).size ≤ 64 := by simp; omega
set_option maxHeartbeats 2000000 in
theorem val_0 (k i : Int) (s : ByteArray) (b : Bool) (hi : In64 i) (hs : s.size ≤ 9223372036854775807) (h : i % 4 = 0) (w : World) : Calls Try.prog 17 #[.agg #[.int .i64 k, .int .i64 i, .string s, .bool b]] w (ValP w) := by
  have HI := Lib.hid hi
  have hb3 := and3 i
  obtain ⟨i1, i2⟩ := hi
  rw [h] at hb3
  go_enter Try.func17, Try.ntmps17
  go_wp2
  · exact bodyPost_ret (v := .agg #[.int .i64 2, .int .i64 0, .string (s.extract 0 4), .bool false]) (by simp [results, Try.results17, go_sem]; try rfl) rfl ⟨_, _, _, _, _, rfl, .text _ (ext_size s), in_zero', rfl⟩
  · rename_i hle
    have hle2 : s.size ≤ 64 := by omega
    exact bodyPost_ret (v := .agg #[.int .i64 2, .int .i64 0, .string s, .bool false]) (by simp [results, Try.results17, go_sem]; try rfl) rfl ⟨_, _, _, _, _, rfl, .text _ hle2, in_zero', rfl⟩
set_option maxHeartbeats 2000000 in
theorem val_1 (k i : Int) (s : ByteArray) (b : Bool) (hi : In64 i) (hs : s.size ≤ 9223372036854775807) (h : i % 4 = 1) (w : World) : Calls Try.prog 17 #[.agg #[.int .i64 k, .int .i64 i, .string s, .bool b]] w (ValP w) := by
  have HI := Lib.hid hi
  have hb3 := and3 i
  obtain ⟨i1, i2⟩ := hi
  rw [h] at hb3
  go_enter Try.func17, Try.ntmps17
  go_wp2
  exact bodyPost_ret (v := .agg #[.int .i64 3, .int .i64 0, .string ⟨#[]⟩, .bool b]) (by simp [results, Try.results17, go_sem]; try rfl) rfl ⟨_, _, _, _, _, rfl, .truth _, in_zero', rfl⟩
set_option maxHeartbeats 2000000 in
theorem val_2 (k i : Int) (s : ByteArray) (b : Bool) (hi : In64 i) (hs : s.size ≤ 9223372036854775807) (h : i % 4 = 2) (w : World) : Calls Try.prog 17 #[.agg #[.int .i64 k, .int .i64 i, .string s, .bool b]] w (ValP w) := by
  have HI := Lib.hid hi
  have hb3 := and3 i
  obtain ⟨i1, i2⟩ := hi
  rw [h] at hb3
  have hm : (i == -9223372036854775808) = false := by simp; omega
  have HM := Lib.hid hm
  go_enter Try.func17, Try.ntmps17
  go_wp2
  exact bodyPost_ret (v := .agg #[.int .i64 1, .int .i64 i, .string ⟨#[]⟩, .bool false]) (by simp [results, Try.results17, go_sem]; try rfl) rfl ⟨_, _, _, _, _, rfl, .num _ HM.out, HI.out, rfl⟩
set_option maxHeartbeats 2000000 in
theorem val_3 (k i : Int) (s : ByteArray) (b : Bool) (hi : In64 i) (hs : s.size ≤ 9223372036854775807) (h : i % 4 = 3) (w : World) : Calls Try.prog 17 #[.agg #[.int .i64 k, .int .i64 i, .string s, .bool b]] w (ValP w) := by
  have HI := Lib.hid hi
  have hb3 := and3 i
  obtain ⟨i1, i2⟩ := hi
  rw [h] at hb3
  have hm : (i == -9223372036854775808) = false := by simp; omega
  have HM := Lib.hid hm
  go_enter Try.func17, Try.ntmps17
  go_wp2
  exact bodyPost_ret (v := .agg #[.int .i64 1, .int .i64 i, .string ⟨#[]⟩, .bool false]) (by simp [results, Try.results17, go_sem]; try rfl) rfl ⟨_, _, _, _, _, rfl, .num _ HM.out, HI.out, rfl⟩
theorem value_any (k i : Int) (s : ByteArray) (b : Bool) (hi : In64 i) (hs : s.size ≤ 9223372036854775807) (w : World) : Calls Try.prog 17 #[.agg #[.int .i64 k, .int .i64 i, .string s, .bool b]] w (ValP w) := by
  have : i % 4 = 0 ∨ i % 4 = 1 ∨ i % 4 = 2 ∨ i % 4 = 3 := by omega
  rcases this with h | h | h | h
  · exact val_0 k i s b hi hs h w
  · exact val_1 k i s b hi hs h w
  · exact val_2 k i s b hi hs h w
  · exact val_3 k i s b hi hs h w
section
open Go.ChangeShapes Go.WideShapes
variable {H : Type} {enc : TypeId × Value → H} {w : World}
theorem open_value_arg {base : Nat} {v : Value} {d : DataW H} {p : List MemPlace} (hv : Value.okWide Try.prog w .any base 23 v) (h : DataW.Trod enc Try.prog w 0 (fun _ => true) true 23 v d p) :
    ∃ k i s b, v = .agg #[.int .i64 k, .int .i64 i, .string s, .bool b] ∧ In64 i ∧ s.size ≤ 9223372036854775807 := by
  obtain ⟨cs, rfl, _⟩ := okWide_struct (by kernel_rfl) hv
  obtain ⟨fuel, hf⟩ := h
  obtain ⟨m, hc, hi, _, hs⟩ := open_value hf
  refine ⟨m.k, m.i, m.s, m.b, ?_, hi, hs⟩
  have : cs.toList = m.cells := hc
  rw [← Array.toArray_toList (xs := cs), this]
  rfl
end
end Go.Proofs.Ytgilfolllckceaa.Evl
