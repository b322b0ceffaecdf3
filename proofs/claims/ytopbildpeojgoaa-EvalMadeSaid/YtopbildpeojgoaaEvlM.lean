/- The reference's both, where the kinds are others. -/
import Derived.Test.YtopbildpeojgoaaEvlL0
import Derived.BigRegion
namespace Go.Proofs.Ytopbildpeojgoaa.Evl
open Go.RowKit Go.Proofs.Ytopbildpeojgoaa Go.Proofs.Ytopbildpeojgoaa.Ev Go.Proofs.Ytopbildpeojgoaa.Sch Go.Proofs.Ytopbildpeojgoaa.Ty Go.Proofs.Ytopbildpeojgoaa.Num
set_option linter.unusedVariables false
set_option maxRecDepth 100000
set_option maxHeartbeats 1000000 in
theorem both_add_no (k x y : Int) (s t : ByteArray) (b c : Bool) (hk : (k == 1) = false) (w : World) : Calls Try.prog 96 #[.int .i64 4, .agg #[.int .i64 k, .int .i64 x, .string s, .bool b], .agg #[.int .i64 k, .int .i64 y, .string t, .bool c]] w (BPost w none) := by
  have HZ1 : Hid (Rz (((w.alloc (.cells #[.int .i64 k, .int .i64 x, .string s, .bool b] 57)).alloc (.cells #[.int .i64 k, .int .i64 y, .string t, .bool c] 57)).alloc (.cells #[.int .i64 0, .int .i64 0, .string ⟨#[]⟩, .bool false] 57)) (w.heap.size + 1 + 1)) := Lib.hid (res3 (Below.refl _ _))
  have HB : Hid (Below w.heap.size w (((w.alloc (.cells #[.int .i64 k, .int .i64 x, .string s, .bool b] 57)).alloc (.cells #[.int .i64 k, .int .i64 y, .string t, .bool c] 57)).alloc (.cells #[.int .i64 0, .int .i64 0, .string ⟨#[]⟩, .bool false] 57))) := Lib.hid below3
  have HRW : Hid (Row (((w.alloc (.cells #[.int .i64 k, .int .i64 x, .string s, .bool b] 57)).alloc (.cells #[.int .i64 k, .int .i64 y, .string t, .bool c] 57)).alloc (.cells #[.int .i64 0, .int .i64 0, .string ⟨#[]⟩, .bool false] 57)) w.heap.size 57 #[.int .i64 k, .int .i64 x, .string s, .bool b] ∧ Row (((w.alloc (.cells #[.int .i64 k, .int .i64 x, .string s, .bool b] 57)).alloc (.cells #[.int .i64 k, .int .i64 y, .string t, .bool c] 57)).alloc (.cells #[.int .i64 0, .int .i64 0, .string ⟨#[]⟩, .bool false] 57)) (w.heap.size + 1) 57 #[.int .i64 k, .int .i64 y, .string t, .bool c]) := Lib.hid rows3
  obtain ⟨z, hz⟩ : ∃ z, IntKind.i64.wrap (x + y) = z := ⟨_, rfl⟩
  go_enter Try.func96, Try.ntmps96
  go_upto_region 3 with fail
  generalize hW : (((w.alloc (.cells #[.int .i64 k, .int .i64 x, .string s, .bool b] 57)).alloc (.cells #[.int .i64 k, .int .i64 y, .string t, .bool c] 57)).alloc (.cells #[.int .i64 0, .int .i64 0, .string ⟨#[]⟩, .bool false] 57)) = W at HZ1 HB HRW ⊢
  clear hW
  have k0 : W.cell? ⟨w.heap.size, 0, none⟩ = some (.int .i64 k) := (HRW.out.1.cell 0).trans rfl
  have k1 : W.cell? ⟨w.heap.size, 1, none⟩ = some (.int .i64 x) := (HRW.out.1.cell 1).trans rfl
  have j1 : W.cell? ⟨w.heap.size + 1, 1, none⟩ = some (.int .i64 y) := (HRW.out.2.cell 1).trans rfl
  obtain ⟨hlt1, p10, p11, p12, p13, f10, f11, f12, f13⟩ := HZ1.out.facts
  first | go_region | fail
  clear hz k0 k1 j1
  go_wp2
  obtain ⟨k0, k1, k2, k3⟩ := four (put4 HZ1.out (.int .i64 1) (.int .i64 z) (.string ⟨#[]⟩) (.bool false))
  exact bodyPost_ret (v := .tuple #[.agg #[.int .i64 1, .int .i64 z, .string ⟨#[]⟩, .bool false], .bool false]) (by simp [results, Try.results96, go_sem, k0, k1, k2, k3]; try rfl) rfl (bpost_no rfl (by first | exact below4 HB.out (w.heap.size + 1 + 1) (by omega) _ _ _ _ | exact (below4 HB.out (w.heap.size + 1 + 1) (by omega) _ _ _ _).drew))
set_option maxHeartbeats 1000000 in
theorem both_sub_no (k x y : Int) (s t : ByteArray) (b c : Bool) (hk : (k == 1) = false) (w : World) : Calls Try.prog 96 #[.int .i64 5, .agg #[.int .i64 k, .int .i64 x, .string s, .bool b], .agg #[.int .i64 k, .int .i64 y, .string t, .bool c]] w (BPost w none) := by
  have HZ1 : Hid (Rz (((w.alloc (.cells #[.int .i64 k, .int .i64 x, .string s, .bool b] 57)).alloc (.cells #[.int .i64 k, .int .i64 y, .string t, .bool c] 57)).alloc (.cells #[.int .i64 0, .int .i64 0, .string ⟨#[]⟩, .bool false] 57)) (w.heap.size + 1 + 1)) := Lib.hid (res3 (Below.refl _ _))
  have HB : Hid (Below w.heap.size w (((w.alloc (.cells #[.int .i64 k, .int .i64 x, .string s, .bool b] 57)).alloc (.cells #[.int .i64 k, .int .i64 y, .string t, .bool c] 57)).alloc (.cells #[.int .i64 0, .int .i64 0, .string ⟨#[]⟩, .bool false] 57))) := Lib.hid below3
  have HRW : Hid (Row (((w.alloc (.cells #[.int .i64 k, .int .i64 x, .string s, .bool b] 57)).alloc (.cells #[.int .i64 k, .int .i64 y, .string t, .bool c] 57)).alloc (.cells #[.int .i64 0, .int .i64 0, .string ⟨#[]⟩, .bool false] 57)) w.heap.size 57 #[.int .i64 k, .int .i64 x, .string s, .bool b] ∧ Row (((w.alloc (.cells #[.int .i64 k, .int .i64 x, .string s, .bool b] 57)).alloc (.cells #[.int .i64 k, .int .i64 y, .string t, .bool c] 57)).alloc (.cells #[.int .i64 0, .int .i64 0, .string ⟨#[]⟩, .bool false] 57)) (w.heap.size + 1) 57 #[.int .i64 k, .int .i64 y, .string t, .bool c]) := Lib.hid rows3
  obtain ⟨z, hz⟩ : ∃ z, IntKind.i64.wrap (x - y) = z := ⟨_, rfl⟩
  go_enter Try.func96, Try.ntmps96
  go_upto_region 5 with fail
  generalize hW : (((w.alloc (.cells #[.int .i64 k, .int .i64 x, .string s, .bool b] 57)).alloc (.cells #[.int .i64 k, .int .i64 y, .string t, .bool c] 57)).alloc (.cells #[.int .i64 0, .int .i64 0, .string ⟨#[]⟩, .bool false] 57)) = W at HZ1 HB HRW ⊢
  clear hW
  have k0 : W.cell? ⟨w.heap.size, 0, none⟩ = some (.int .i64 k) := (HRW.out.1.cell 0).trans rfl
  have k1 : W.cell? ⟨w.heap.size, 1, none⟩ = some (.int .i64 x) := (HRW.out.1.cell 1).trans rfl
  have j1 : W.cell? ⟨w.heap.size + 1, 1, none⟩ = some (.int .i64 y) := (HRW.out.2.cell 1).trans rfl
  obtain ⟨hlt1, p10, p11, p12, p13, f10, f11, f12, f13⟩ := HZ1.out.facts
  first | go_region | fail
  clear hz k0 k1 j1
  go_wp2
  obtain ⟨k0, k1, k2, k3⟩ := four (put4 HZ1.out (.int .i64 1) (.int .i64 z) (.string ⟨#[]⟩) (.bool false))
  exact bodyPost_ret (v := .tuple #[.agg #[.int .i64 1, .int .i64 z, .string ⟨#[]⟩, .bool false], .bool false]) (by simp [results, Try.results96, go_sem, k0, k1, k2, k3]; try rfl) rfl (bpost_no rfl (by first | exact below4 HB.out (w.heap.size + 1 + 1) (by omega) _ _ _ _ | exact (below4 HB.out (w.heap.size + 1 + 1) (by omega) _ _ _ _).drew))
set_option maxHeartbeats 1000000 in
theorem both_mul_no (k x y : Int) (s t : ByteArray) (b c : Bool) (hk : (k == 1) = false) (w : World) : Calls Try.prog 96 #[.int .i64 6, .agg #[.int .i64 k, .int .i64 x, .string s, .bool b], .agg #[.int .i64 k, .int .i64 y, .string t, .bool c]] w (BPost w none) := by
  have HZ1 : Hid (Rz (((w.alloc (.cells #[.int .i64 k, .int .i64 x, .string s, .bool b] 57)).alloc (.cells #[.int .i64 k, .int .i64 y, .string t, .bool c] 57)).alloc (.cells #[.int .i64 0, .int .i64 0, .string ⟨#[]⟩, .bool false] 57)) (w.heap.size + 1 + 1)) := Lib.hid (res3 (Below.refl _ _))
  have HB : Hid (Below w.heap.size w (((w.alloc (.cells #[.int .i64 k, .int .i64 x, .string s, .bool b] 57)).alloc (.cells #[.int .i64 k, .int .i64 y, .string t, .bool c] 57)).alloc (.cells #[.int .i64 0, .int .i64 0, .string ⟨#[]⟩, .bool false] 57))) := Lib.hid below3
  have HRW : Hid (Row (((w.alloc (.cells #[.int .i64 k, .int .i64 x, .string s, .bool b] 57)).alloc (.cells #[.int .i64 k, .int .i64 y, .string t, .bool c] 57)).alloc (.cells #[.int .i64 0, .int .i64 0, .string ⟨#[]⟩, .bool false] 57)) w.heap.size 57 #[.int .i64 k, .int .i64 x, .string s, .bool b] ∧ Row (((w.alloc (.cells #[.int .i64 k, .int .i64 x, .string s, .bool b] 57)).alloc (.cells #[.int .i64 k, .int .i64 y, .string t, .bool c] 57)).alloc (.cells #[.int .i64 0, .int .i64 0, .string ⟨#[]⟩, .bool false] 57)) (w.heap.size + 1) 57 #[.int .i64 k, .int .i64 y, .string t, .bool c]) := Lib.hid rows3
  obtain ⟨z, hz⟩ : ∃ z, IntKind.i64.wrap (x * y) = z := ⟨_, rfl⟩
  go_enter Try.func96, Try.ntmps96
  go_upto_region 7 with fail
  generalize hW : (((w.alloc (.cells #[.int .i64 k, .int .i64 x, .string s, .bool b] 57)).alloc (.cells #[.int .i64 k, .int .i64 y, .string t, .bool c] 57)).alloc (.cells #[.int .i64 0, .int .i64 0, .string ⟨#[]⟩, .bool false] 57)) = W at HZ1 HB HRW ⊢
  clear hW
  have k0 : W.cell? ⟨w.heap.size, 0, none⟩ = some (.int .i64 k) := (HRW.out.1.cell 0).trans rfl
  have k1 : W.cell? ⟨w.heap.size, 1, none⟩ = some (.int .i64 x) := (HRW.out.1.cell 1).trans rfl
  have j1 : W.cell? ⟨w.heap.size + 1, 1, none⟩ = some (.int .i64 y) := (HRW.out.2.cell 1).trans rfl
  obtain ⟨hlt1, p10, p11, p12, p13, f10, f11, f12, f13⟩ := HZ1.out.facts
  first | go_region | fail
  clear hz k0 k1 j1
  go_wp2
  obtain ⟨k0, k1, k2, k3⟩ := four (put4 HZ1.out (.int .i64 1) (.int .i64 z) (.string ⟨#[]⟩) (.bool false))
  exact bodyPost_ret (v := .tuple #[.agg #[.int .i64 1, .int .i64 z, .string ⟨#[]⟩, .bool false], .bool false]) (by simp [results, Try.results96, go_sem, k0, k1, k2, k3]; try rfl) rfl (bpost_no rfl (by first | exact below4 HB.out (w.heap.size + 1 + 1) (by omega) _ _ _ _ | exact (below4 HB.out (w.heap.size + 1 + 1) (by omega) _ _ _ _).drew))
set_option maxHeartbeats 1000000 in
theorem both_and_yes_true (k x y : Int) (s t : ByteArray) (c : Bool) (hk : (k == 3) = true) (w : World) : Calls Try.prog 96 #[.int .i64 14, .agg #[.int .i64 k, .int .i64 x, .string s, .bool true], .agg #[.int .i64 k, .int .i64 y, .string t, .bool c]] w (BPost w (some (trV (true && c)))) := by
  have HZ1 : Hid (Rz (((w.alloc (.cells #[.int .i64 k, .int .i64 x, .string s, .bool true] 57)).alloc (.cells #[.int .i64 k, .int .i64 y, .string t, .bool c] 57)).alloc (.cells #[.int .i64 0, .int .i64 0, .string ⟨#[]⟩, .bool false] 57)) (w.heap.size + 1 + 1)) := Lib.hid (res3 (Below.refl _ _))
  have HB : Hid (Below w.heap.size w (((w.alloc (.cells #[.int .i64 k, .int .i64 x, .string s, .bool true] 57)).alloc (.cells #[.int .i64 k, .int .i64 y, .string t, .bool c] 57)).alloc (.cells #[.int .i64 0, .int .i64 0, .string ⟨#[]⟩, .bool false] 57))) := Lib.hid below3
  have HRW : Hid (Row (((w.alloc (.cells #[.int .i64 k, .int .i64 x, .string s, .bool true] 57)).alloc (.cells #[.int .i64 k, .int .i64 y, .string t, .bool c] 57)).alloc (.cells #[.int .i64 0, .int .i64 0, .string ⟨#[]⟩, .bool false] 57)) w.heap.size 57 #[.int .i64 k, .int .i64 x, .string s, .bool true] ∧ Row (((w.alloc (.cells #[.int .i64 k, .int .i64 x, .string s, .bool true] 57)).alloc (.cells #[.int .i64 k, .int .i64 y, .string t, .bool c] 57)).alloc (.cells #[.int .i64 0, .int .i64 0, .string ⟨#[]⟩, .bool false] 57)) (w.heap.size + 1) 57 #[.int .i64 k, .int .i64 y, .string t, .bool c]) := Lib.hid rows3
  go_enter Try.func96, Try.ntmps96
  go_upto_region 9 with fail
  generalize hW : (((w.alloc (.cells #[.int .i64 k, .int .i64 x, .string s, .bool true] 57)).alloc (.cells #[.int .i64 k, .int .i64 y, .string t, .bool c] 57)).alloc (.cells #[.int .i64 0, .int .i64 0, .string ⟨#[]⟩, .bool false] 57)) = W at HZ1 HB HRW ⊢
  clear hW
  have k0 : W.cell? ⟨w.heap.size, 0, none⟩ = some (.int .i64 k) := (HRW.out.1.cell 0).trans rfl
  have k3 : W.cell? ⟨w.heap.size, 3, none⟩ = some (.bool true) := (HRW.out.1.cell 3).trans rfl
  have j3 : W.cell? ⟨w.heap.size + 1, 3, none⟩ = some (.bool c) := (HRW.out.2.cell 3).trans rfl
  obtain ⟨hlt1, p10, p11, p12, p13, f10, f11, f12, f13⟩ := HZ1.out.facts
  first | go_region | fail
  clear k0 k3 j3
  go_wp2
  obtain ⟨k0, k1, k2, k3⟩ := four (put4 HZ1.out (.int .i64 3) (.int .i64 0) (.string ⟨#[]⟩) (.bool c))
  exact bodyPost_ret (v := .tuple #[.agg #[.int .i64 3, .int .i64 0, .string ⟨#[]⟩, .bool c], .bool true]) (by simp [results, Try.results96, go_sem, k0, k1, k2, k3]; try rfl) rfl (bpost_yes rfl (by first | exact below4 HB.out (w.heap.size + 1 + 1) (by omega) _ _ _ _ | exact (below4 HB.out (w.heap.size + 1 + 1) (by omega) _ _ _ _).drew))
set_option maxHeartbeats 1000000 in
theorem both_and_yes_false (k x y : Int) (s t : ByteArray) (c : Bool) (hk : (k == 3) = true) (w : World) : Calls Try.prog 96 #[.int .i64 14, .agg #[.int .i64 k, .int .i64 x, .string s, .bool false], .agg #[.int .i64 k, .int .i64 y, .string t, .bool c]] w (BPost w (some (trV (false && c)))) := by
  have HZ1 : Hid (Rz (((w.alloc (.cells #[.int .i64 k, .int .i64 x, .string s, .bool false] 57)).alloc (.cells #[.int .i64 k, .int .i64 y, .string t, .bool c] 57)).alloc (.cells #[.int .i64 0, .int .i64 0, .string ⟨#[]⟩, .bool false] 57)) (w.heap.size + 1 + 1)) := Lib.hid (res3 (Below.refl _ _))
  have HB : Hid (Below w.heap.size w (((w.alloc (.cells #[.int .i64 k, .int .i64 x, .string s, .bool false] 57)).alloc (.cells #[.int .i64 k, .int .i64 y, .string t, .bool c] 57)).alloc (.cells #[.int .i64 0, .int .i64 0, .string ⟨#[]⟩, .bool false] 57))) := Lib.hid below3
  have HRW : Hid (Row (((w.alloc (.cells #[.int .i64 k, .int .i64 x, .string s, .bool false] 57)).alloc (.cells #[.int .i64 k, .int .i64 y, .string t, .bool c] 57)).alloc (.cells #[.int .i64 0, .int .i64 0, .string ⟨#[]⟩, .bool false] 57)) w.heap.size 57 #[.int .i64 k, .int .i64 x, .string s, .bool false] ∧ Row (((w.alloc (.cells #[.int .i64 k, .int .i64 x, .string s, .bool false] 57)).alloc (.cells #[.int .i64 k, .int .i64 y, .string t, .bool c] 57)).alloc (.cells #[.int .i64 0, .int .i64 0, .string ⟨#[]⟩, .bool false] 57)) (w.heap.size + 1) 57 #[.int .i64 k, .int .i64 y, .string t, .bool c]) := Lib.hid rows3
  go_enter Try.func96, Try.ntmps96
  go_upto_region 9 with fail
  generalize hW : (((w.alloc (.cells #[.int .i64 k, .int .i64 x, .string s, .bool false] 57)).alloc (.cells #[.int .i64 k, .int .i64 y, .string t, .bool c] 57)).alloc (.cells #[.int .i64 0, .int .i64 0, .string ⟨#[]⟩, .bool false] 57)) = W at HZ1 HB HRW ⊢
  clear hW
  have k0 : W.cell? ⟨w.heap.size, 0, none⟩ = some (.int .i64 k) := (HRW.out.1.cell 0).trans rfl
  have k3 : W.cell? ⟨w.heap.size, 3, none⟩ = some (.bool false) := (HRW.out.1.cell 3).trans rfl
  have j3 : W.cell? ⟨w.heap.size + 1, 3, none⟩ = some (.bool c) := (HRW.out.2.cell 3).trans rfl
  obtain ⟨hlt1, p10, p11, p12, p13, f10, f11, f12, f13⟩ := HZ1.out.facts
  first | go_region | fail
  clear k0 k3 j3
  go_wp2
  obtain ⟨k0, k1, k2, k3⟩ := four (put4 HZ1.out (.int .i64 3) (.int .i64 0) (.string ⟨#[]⟩) (.bool false))
  exact bodyPost_ret (v := .tuple #[.agg #[.int .i64 3, .int .i64 0, .string ⟨#[]⟩, .bool false], .bool true]) (by simp [results, Try.results96, go_sem, k0, k1, k2, k3]; try rfl) rfl (bpost_yes rfl (by first | exact below4 HB.out (w.heap.size + 1 + 1) (by omega) _ _ _ _ | exact (below4 HB.out (w.heap.size + 1 + 1) (by omega) _ _ _ _).drew))
set_option maxHeartbeats 1000000 in
theorem both_and_no_true (k x y : Int) (s t : ByteArray) (c : Bool) (hk : (k == 3) = false) (w : World) : Calls Try.prog 96 #[.int .i64 14, .agg #[.int .i64 k, .int .i64 x, .string s, .bool true], .agg #[.int .i64 k, .int .i64 y, .string t, .bool c]] w (BPost w none) := by
  have HZ1 : Hid (Rz (((w.alloc (.cells #[.int .i64 k, .int .i64 x, .string s, .bool true] 57)).alloc (.cells #[.int .i64 k, .int .i64 y, .string t, .bool c] 57)).alloc (.cells #[.int .i64 0, .int .i64 0, .string ⟨#[]⟩, .bool false] 57)) (w.heap.size + 1 + 1)) := Lib.hid (res3 (Below.refl _ _))
  have HB : Hid (Below w.heap.size w (((w.alloc (.cells #[.int .i64 k, .int .i64 x, .string s, .bool true] 57)).alloc (.cells #[.int .i64 k, .int .i64 y, .string t, .bool c] 57)).alloc (.cells #[.int .i64 0, .int .i64 0, .string ⟨#[]⟩, .bool false] 57))) := Lib.hid below3
  have HRW : Hid (Row (((w.alloc (.cells #[.int .i64 k, .int .i64 x, .string s, .bool true] 57)).alloc (.cells #[.int .i64 k, .int .i64 y, .string t, .bool c] 57)).alloc (.cells #[.int .i64 0, .int .i64 0, .string ⟨#[]⟩, .bool false] 57)) w.heap.size 57 #[.int .i64 k, .int .i64 x, .string s, .bool true] ∧ Row (((w.alloc (.cells #[.int .i64 k, .int .i64 x, .string s, .bool true] 57)).alloc (.cells #[.int .i64 k, .int .i64 y, .string t, .bool c] 57)).alloc (.cells #[.int .i64 0, .int .i64 0, .string ⟨#[]⟩, .bool false] 57)) (w.heap.size + 1) 57 #[.int .i64 k, .int .i64 y, .string t, .bool c]) := Lib.hid rows3
  go_enter Try.func96, Try.ntmps96
  go_upto_region 9 with fail
  generalize hW : (((w.alloc (.cells #[.int .i64 k, .int .i64 x, .string s, .bool true] 57)).alloc (.cells #[.int .i64 k, .int .i64 y, .string t, .bool c] 57)).alloc (.cells #[.int .i64 0, .int .i64 0, .string ⟨#[]⟩, .bool false] 57)) = W at HZ1 HB HRW ⊢
  clear hW
  have k0 : W.cell? ⟨w.heap.size, 0, none⟩ = some (.int .i64 k) := (HRW.out.1.cell 0).trans rfl
  have k3 : W.cell? ⟨w.heap.size, 3, none⟩ = some (.bool true) := (HRW.out.1.cell 3).trans rfl
  have j3 : W.cell? ⟨w.heap.size + 1, 3, none⟩ = some (.bool c) := (HRW.out.2.cell 3).trans rfl
  obtain ⟨hlt1, p10, p11, p12, p13, f10, f11, f12, f13⟩ := HZ1.out.facts
  first | go_region | fail
  clear k0 k3 j3
  go_wp2
  obtain ⟨k0, k1, k2, k3⟩ := four (put4 HZ1.out (.int .i64 3) (.int .i64 0) (.string ⟨#[]⟩) (.bool c))
  exact bodyPost_ret (v := .tuple #[.agg #[.int .i64 3, .int .i64 0, .string ⟨#[]⟩, .bool c], .bool false]) (by simp [results, Try.results96, go_sem, k0, k1, k2, k3]; try rfl) rfl (bpost_no rfl (by first | exact below4 HB.out (w.heap.size + 1 + 1) (by omega) _ _ _ _ | exact (below4 HB.out (w.heap.size + 1 + 1) (by omega) _ _ _ _).drew))
set_option maxHeartbeats 1000000 in
theorem both_and_no_false (k x y : Int) (s t : ByteArray) (c : Bool) (hk : (k == 3) = false) (w : World) : Calls Try.prog 96 #[.int .i64 14, .agg #[.int .i64 k, .int .i64 x, .string s, .bool false], .agg #[.int .i64 k, .int .i64 y, .string t, .bool c]] w (BPost w none) := by
  have HZ1 : Hid (Rz (((w.alloc (.cells #[.int .i64 k, .int .i64 x, .string s, .bool false] 57)).alloc (.cells #[.int .i64 k, .int .i64 y, .string t, .bool c] 57)).alloc (.cells #[.int .i64 0, .int .i64 0, .string ⟨#[]⟩, .bool false] 57)) (w.heap.size + 1 + 1)) := Lib.hid (res3 (Below.refl _ _))
  have HB : Hid (Below w.heap.size w (((w.alloc (.cells #[.int .i64 k, .int .i64 x, .string s, .bool false] 57)).alloc (.cells #[.int .i64 k, .int .i64 y, .string t, .bool c] 57)).alloc (.cells #[.int .i64 0, .int .i64 0, .string ⟨#[]⟩, .bool false] 57))) := Lib.hid below3
  have HRW : Hid (Row (((w.alloc (.cells #[.int .i64 k, .int .i64 x, .string s, .bool false] 57)).alloc (.cells #[.int .i64 k, .int .i64 y, .string t, .bool c] 57)).alloc (.cells #[.int .i64 0, .int .i64 0, .string ⟨#[]⟩, .bool false] 57)) w.heap.size 57 #[.int .i64 k, .int .i64 x, .string s, .bool false] ∧ Row (((w.alloc (.cells #[.int .i64 k, .int .i64 x, .string s, .bool false] 57)).alloc (.cells #[.int .i64 k, .int .i64 y, .string t, .bool c] 57)).alloc (.cells #[.int .i64 0, .int .i64 0, .string ⟨#[]⟩, .bool false] 57)) (w.heap.size + 1) 57 #[.int .i64 k, .int .i64 y, .string t, .bool c]) := Lib.hid rows3
  go_enter Try.func96, Try.ntmps96
  go_upto_region 9 with fail
  generalize hW : (((w.alloc (.cells #[.int .i64 k, .int .i64 x, .string s, .bool false] 57)).alloc (.cells #[.int .i64 k, .int .i64 y, .string t, .bool c] 57)).alloc (.cells #[.int .i64 0, .int .i64 0, .string ⟨#[]⟩, .bool false] 57)) = W at HZ1 HB HRW ⊢
  clear hW
  have k0 : W.cell? ⟨w.heap.size, 0, none⟩ = some (.int .i64 k) := (HRW.out.1.cell 0).trans rfl
  have k3 : W.cell? ⟨w.heap.size, 3, none⟩ = some (.bool false) := (HRW.out.1.cell 3).trans rfl
  have j3 : W.cell? ⟨w.heap.size + 1, 3, none⟩ = some (.bool c) := (HRW.out.2.cell 3).trans rfl
  obtain ⟨hlt1, p10, p11, p12, p13, f10, f11, f12, f13⟩ := HZ1.out.facts
  first | go_region | fail
  clear k0 k3 j3
  go_wp2
  obtain ⟨k0, k1, k2, k3⟩ := four (put4 HZ1.out (.int .i64 3) (.int .i64 0) (.string ⟨#[]⟩) (.bool false))
  exact bodyPost_ret (v := .tuple #[.agg #[.int .i64 3, .int .i64 0, .string ⟨#[]⟩, .bool false], .bool false]) (by simp [results, Try.results96, go_sem, k0, k1, k2, k3]; try rfl) rfl (bpost_no rfl (by first | exact below4 HB.out (w.heap.size + 1 + 1) (by omega) _ _ _ _ | exact (below4 HB.out (w.heap.size + 1 + 1) (by omega) _ _ _ _).drew))
set_option maxHeartbeats 1000000 in
theorem both_or_yes_true (k x y : Int) (s t : ByteArray) (c : Bool) (hk : (k == 3) = true) (w : World) : Calls Try.prog 96 #[.int .i64 15, .agg #[.int .i64 k, .int .i64 x, .string s, .bool true], .agg #[.int .i64 k, .int .i64 y, .string t, .bool c]] w (BPost w (some (trV (true || c)))) := by
  have HZ1 : Hid (Rz (((w.alloc (.cells #[.int .i64 k, .int .i64 x, .string s, .bool true] 57)).alloc (.cells #[.int .i64 k, .int .i64 y, .string t, .bool c] 57)).alloc (.cells #[.int .i64 0, .int .i64 0, .string ⟨#[]⟩, .bool false] 57)) (w.heap.size + 1 + 1)) := Lib.hid (res3 (Below.refl _ _))
  have HB : Hid (Below w.heap.size w (((w.alloc (.cells #[.int .i64 k, .int .i64 x, .string s, .bool true] 57)).alloc (.cells #[.int .i64 k, .int .i64 y, .string t, .bool c] 57)).alloc (.cells #[.int .i64 0, .int .i64 0, .string ⟨#[]⟩, .bool false] 57))) := Lib.hid below3
  have HRW : Hid (Row (((w.alloc (.cells #[.int .i64 k, .int .i64 x, .string s, .bool true] 57)).alloc (.cells #[.int .i64 k, .int .i64 y, .string t, .bool c] 57)).alloc (.cells #[.int .i64 0, .int .i64 0, .string ⟨#[]⟩, .bool false] 57)) w.heap.size 57 #[.int .i64 k, .int .i64 x, .string s, .bool true] ∧ Row (((w.alloc (.cells #[.int .i64 k, .int .i64 x, .string s, .bool true] 57)).alloc (.cells #[.int .i64 k, .int .i64 y, .string t, .bool c] 57)).alloc (.cells #[.int .i64 0, .int .i64 0, .string ⟨#[]⟩, .bool false] 57)) (w.heap.size + 1) 57 #[.int .i64 k, .int .i64 y, .string t, .bool c]) := Lib.hid rows3
  go_enter Try.func96, Try.ntmps96
  go_upto_region 11 with fail
  generalize hW : (((w.alloc (.cells #[.int .i64 k, .int .i64 x, .string s, .bool true] 57)).alloc (.cells #[.int .i64 k, .int .i64 y, .string t, .bool c] 57)).alloc (.cells #[.int .i64 0, .int .i64 0, .string ⟨#[]⟩, .bool false] 57)) = W at HZ1 HB HRW ⊢
  clear hW
  have k0 : W.cell? ⟨w.heap.size, 0, none⟩ = some (.int .i64 k) := (HRW.out.1.cell 0).trans rfl
  have k3 : W.cell? ⟨w.heap.size, 3, none⟩ = some (.bool true) := (HRW.out.1.cell 3).trans rfl
  have j3 : W.cell? ⟨w.heap.size + 1, 3, none⟩ = some (.bool c) := (HRW.out.2.cell 3).trans rfl
  obtain ⟨hlt1, p10, p11, p12, p13, f10, f11, f12, f13⟩ := HZ1.out.facts
  first | go_region | fail
  clear k0 k3 j3
  go_wp2
  obtain ⟨k0, k1, k2, k3⟩ := four (put4 HZ1.out (.int .i64 3) (.int .i64 0) (.string ⟨#[]⟩) (.bool true))
  exact bodyPost_ret (v := .tuple #[.agg #[.int .i64 3, .int .i64 0, .string ⟨#[]⟩, .bool true], .bool true]) (by simp [results, Try.results96, go_sem, k0, k1, k2, k3]; try rfl) rfl (bpost_yes rfl (by first | exact below4 HB.out (w.heap.size + 1 + 1) (by omega) _ _ _ _ | exact (below4 HB.out (w.heap.size + 1 + 1) (by omega) _ _ _ _).drew))
set_option maxHeartbeats 1000000 in
theorem both_or_yes_false (k x y : Int) (s t : ByteArray) (c : Bool) (hk : (k == 3) = true) (w : World) : Calls Try.prog 96 #[.int .i64 15, .agg #[.int .i64 k, .int .i64 x, .string s, .bool false], .agg #[.int .i64 k, .int .i64 y, .string t, .bool c]] w (BPost w (some (trV (false || c)))) := by
  have HZ1 : Hid (Rz (((w.alloc (.cells #[.int .i64 k, .int .i64 x, .string s, .bool false] 57)).alloc (.cells #[.int .i64 k, .int .i64 y, .string t, .bool c] 57)).alloc (.cells #[.int .i64 0, .int .i64 0, .string ⟨#[]⟩, .bool false] 57)) (w.heap.size + 1 + 1)) := Lib.hid (res3 (Below.refl _ _))
  have HB : Hid (Below w.heap.size w (((w.alloc (.cells #[.int .i64 k, .int .i64 x, .string s, .bool false] 57)).alloc (.cells #[.int .i64 k, .int .i64 y, .string t, .bool c] 57)).alloc (.cells #[.int .i64 0, .int .i64 0, .string ⟨#[]⟩, .bool false] 57))) := Lib.hid below3
  have HRW : Hid (Row (((w.alloc (.cells #[.int .i64 k, .int .i64 x, .string s, .bool false] 57)).alloc (.cells #[.int .i64 k, .int .i64 y, .string t, .bool c] 57)).alloc (.cells #[.int .i64 0, .int .i64 0, .string ⟨#[]⟩, .bool false] 57)) w.heap.size 57 #[.int .i64 k, .int .i64 x, .string s, .bool false] ∧ Row (((w.alloc (.cells #[.int .i64 k, .int .i64 x, .string s, .bool false] 57)).alloc (.cells #[.int .i64 k, .int .i64 y, .string t, .bool c] 57)).alloc (.cells #[.int .i64 0, .int .i64 0, .string ⟨#[]⟩, .bool false] 57)) (w.heap.size + 1) 57 #[.int .i64 k, .int .i64 y, .string t, .bool c]) := Lib.hid rows3
  go_enter Try.func96, Try.ntmps96
  go_upto_region 11 with fail
  generalize hW : (((w.alloc (.cells #[.int .i64 k, .int .i64 x, .string s, .bool false] 57)).alloc (.cells #[.int .i64 k, .int .i64 y, .string t, .bool c] 57)).alloc (.cells #[.int .i64 0, .int .i64 0, .string ⟨#[]⟩, .bool false] 57)) = W at HZ1 HB HRW ⊢
  clear hW
  have k0 : W.cell? ⟨w.heap.size, 0, none⟩ = some (.int .i64 k) := (HRW.out.1.cell 0).trans rfl
  have k3 : W.cell? ⟨w.heap.size, 3, none⟩ = some (.bool false) := (HRW.out.1.cell 3).trans rfl
  have j3 : W.cell? ⟨w.heap.size + 1, 3, none⟩ = some (.bool c) := (HRW.out.2.cell 3).trans rfl
  obtain ⟨hlt1, p10, p11, p12, p13, f10, f11, f12, f13⟩ := HZ1.out.facts
  first | go_region | fail
  clear k0 k3 j3
  go_wp2
  obtain ⟨k0, k1, k2, k3⟩ := four (put4 HZ1.out (.int .i64 3) (.int .i64 0) (.string ⟨#[]⟩) (.bool c))
  exact bodyPost_ret (v := .tuple #[.agg #[.int .i64 3, .int .i64 0, .string ⟨#[]⟩, .bool c], .bool true]) (by simp [results, Try.results96, go_sem, k0, k1, k2, k3]; try rfl) rfl (bpost_yes rfl (by first | exact below4 HB.out (w.heap.size + 1 + 1) (by omega) _ _ _ _ | exact (below4 HB.out (w.heap.size + 1 + 1) (by omega) _ _ _ _).drew))
set_option maxHeartbeats 1000000 in
theorem both_or_no_true (k x y : Int) (s t : ByteArray) (c : Bool) (hk : (k == 3) = false) (w : World) : Calls Try.prog 96 #[.int .i64 15, .agg #[.int .i64 k, .int .i64 x, .string s, .bool true], .agg #[.int .i64 k, .int .i64 y, .string t, .bool c]] w (BPost w none) := by
  have HZ1 : Hid (Rz (((w.alloc (.cells #[.int .i64 k, .int .i64 x, .string s, .bool true] 57)).alloc (.cells #[.int .i64 k, .int .i64 y, .string t, .bool c] 57)).alloc (.cells #[.int .i64 0, .int .i64 0, .string ⟨#[]⟩, .bool false] 57)) (w.heap.size + 1 + 1)) := Lib.hid (res3 (Below.refl _ _))
  have HB : Hid (Below w.heap.size w (((w.alloc (.cells #[.int .i64 k, .int .i64 x, .string s, .bool true] 57)).alloc (.cells #[.int .i64 k, .int .i64 y, .string t, .bool c] 57)).alloc (.cells #[.int .i64 0, .int .i64 0, .string ⟨#[]⟩, .bool false] 57))) := Lib.hid below3
  have HRW : Hid (Row (((w.alloc (.cells #[.int .i64 k, .int .i64 x, .string s, .bool true] 57)).alloc (.cells #[.int .i64 k, .int .i64 y, .string t, .bool c] 57)).alloc (.cells #[.int .i64 0, .int .i64 0, .string ⟨#[]⟩, .bool false] 57)) w.heap.size 57 #[.int .i64 k, .int .i64 x, .string s, .bool true] ∧ Row (((w.alloc (.cells #[.int .i64 k, .int .i64 x, .string s, .bool true] 57)).alloc (.cells #[.int .i64 k, .int .i64 y, .string t, .bool c] 57)).alloc (.cells #[.int .i64 0, .int .i64 0, .string ⟨#[]⟩, .bool false] 57)) (w.heap.size + 1) 57 #[.int .i64 k, .int .i64 y, .string t, .bool c]) := Lib.hid rows3
  go_enter Try.func96, Try.ntmps96
  go_upto_region 11 with fail
  generalize hW : (((w.alloc (.cells #[.int .i64 k, .int .i64 x, .string s, .bool true] 57)).alloc (.cells #[.int .i64 k, .int .i64 y, .string t, .bool c] 57)).alloc (.cells #[.int .i64 0, .int .i64 0, .string ⟨#[]⟩, .bool false] 57)) = W at HZ1 HB HRW ⊢
  clear hW
  have k0 : W.cell? ⟨w.heap.size, 0, none⟩ = some (.int .i64 k) := (HRW.out.1.cell 0).trans rfl
  have k3 : W.cell? ⟨w.heap.size, 3, none⟩ = some (.bool true) := (HRW.out.1.cell 3).trans rfl
  have j3 : W.cell? ⟨w.heap.size + 1, 3, none⟩ = some (.bool c) := (HRW.out.2.cell 3).trans rfl
  obtain ⟨hlt1, p10, p11, p12, p13, f10, f11, f12, f13⟩ := HZ1.out.facts
  first | go_region | fail
  clear k0 k3 j3
  go_wp2
  obtain ⟨k0, k1, k2, k3⟩ := four (put4 HZ1.out (.int .i64 3) (.int .i64 0) (.string ⟨#[]⟩) (.bool true))
  exact bodyPost_ret (v := .tuple #[.agg #[.int .i64 3, .int .i64 0, .string ⟨#[]⟩, .bool true], .bool false]) (by simp [results, Try.results96, go_sem, k0, k1, k2, k3]; try rfl) rfl (bpost_no rfl (by first | exact below4 HB.out (w.heap.size + 1 + 1) (by omega) _ _ _ _ | exact (below4 HB.out (w.heap.size + 1 + 1) (by omega) _ _ _ _).drew))
set_option maxHeartbeats 1000000 in
theorem both_or_no_false (k x y : Int) (s t : ByteArray) (c : Bool) (hk : (k == 3) = false) (w : World) : Calls Try.prog 96 #[.int .i64 15, .agg #[.int .i64 k, .int .i64 x, .string s, .bool false], .agg #[.int .i64 k, .int .i64 y, .string t, .bool c]] w (BPost w none) := by
  have HZ1 : Hid (Rz (((w.alloc (.cells #[.int .i64 k, .int .i64 x, .string s, .bool false] 57)).alloc (.cells #[.int .i64 k, .int .i64 y, .string t, .bool c] 57)).alloc (.cells #[.int .i64 0, .int .i64 0, .string ⟨#[]⟩, .bool false] 57)) (w.heap.size + 1 + 1)) := Lib.hid (res3 (Below.refl _ _))
  have HB : Hid (Below w.heap.size w (((w.alloc (.cells #[.int .i64 k, .int .i64 x, .string s, .bool false] 57)).alloc (.cells #[.int .i64 k, .int .i64 y, .string t, .bool c] 57)).alloc (.cells #[.int .i64 0, .int .i64 0, .string ⟨#[]⟩, .bool false] 57))) := Lib.hid below3
  have HRW : Hid (Row (((w.alloc (.cells #[.int .i64 k, .int .i64 x, .string s, .bool false] 57)).alloc (.cells #[.int .i64 k, .int .i64 y, .string t, .bool c] 57)).alloc (.cells #[.int .i64 0, .int .i64 0, .string ⟨#[]⟩, .bool false] 57)) w.heap.size 57 #[.int .i64 k, .int .i64 x, .string s, .bool false] ∧ Row (((w.alloc (.cells #[.int .i64 k, .int .i64 x, .string s, .bool false] 57)).alloc (.cells #[.int .i64 k, .int .i64 y, .string t, .bool c] 57)).alloc (.cells #[.int .i64 0, .int .i64 0, .string ⟨#[]⟩, .bool false] 57)) (w.heap.size + 1) 57 #[.int .i64 k, .int .i64 y, .string t, .bool c]) := Lib.hid rows3
  go_enter Try.func96, Try.ntmps96
  go_upto_region 11 with fail
  generalize hW : (((w.alloc (.cells #[.int .i64 k, .int .i64 x, .string s, .bool false] 57)).alloc (.cells #[.int .i64 k, .int .i64 y, .string t, .bool c] 57)).alloc (.cells #[.int .i64 0, .int .i64 0, .string ⟨#[]⟩, .bool false] 57)) = W at HZ1 HB HRW ⊢
  clear hW
  have k0 : W.cell? ⟨w.heap.size, 0, none⟩ = some (.int .i64 k) := (HRW.out.1.cell 0).trans rfl
  have k3 : W.cell? ⟨w.heap.size, 3, none⟩ = some (.bool false) := (HRW.out.1.cell 3).trans rfl
  have j3 : W.cell? ⟨w.heap.size + 1, 3, none⟩ = some (.bool c) := (HRW.out.2.cell 3).trans rfl
  obtain ⟨hlt1, p10, p11, p12, p13, f10, f11, f12, f13⟩ := HZ1.out.facts
  first | go_region | fail
  clear k0 k3 j3
  go_wp2
  obtain ⟨k0, k1, k2, k3⟩ := four (put4 HZ1.out (.int .i64 3) (.int .i64 0) (.string ⟨#[]⟩) (.bool c))
  exact bodyPost_ret (v := .tuple #[.agg #[.int .i64 3, .int .i64 0, .string ⟨#[]⟩, .bool c], .bool false]) (by simp [results, Try.results96, go_sem, k0, k1, k2, k3]; try rfl) rfl (bpost_no rfl (by first | exact below4 HB.out (w.heap.size + 1 + 1) (by omega) _ _ _ _ | exact (below4 HB.out (w.heap.size + 1 + 1) (by omega) _ _ _ _).drew))
end Go.Proofs.Ytopbildpeojgoaa.Evl
