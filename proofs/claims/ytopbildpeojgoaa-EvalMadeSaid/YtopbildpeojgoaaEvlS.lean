/- Texts put together: EvlN, EvlP, EvlQ, EvlR, EvlS. -/
import Derived.Test.YtopbildpeojgoaaEvlL0
section
namespace Go.Proofs.Ytopbildpeojgoaa.Evl
open Go.RowKit Go.Proofs.Ytopbildpeojgoaa Go.Proofs.Ytopbildpeojgoaa.Ev Go.Proofs.Ytopbildpeojgoaa.Sch Go.Proofs.Ytopbildpeojgoaa.Ty Go.Proofs.Ytopbildpeojgoaa.Num
set_option linter.unusedVariables false
set_option maxRecDepth 100000
theorem cmp_postN {o : Int} {a b : VV} {r : Int} {bv : Bool} {w X : World} (h1 : 7 ≤ o) (h2 : o ≤ 12) (hr : ordV a b = some r) (hb : standM o r = bv) (hX : Below w.heap.size w X) : BPost w (opM o [a, b]) (.returned (.tuple #[.agg #[.int .i64 3, .int .i64 0, .string ⟨#[]⟩, .bool bv], .bool true])) X := by
  have e : opM o [a, b] = some (trV (standM o r)) := by
    simp only [opM]
    rw [if_neg (by omega), if_neg (by omega), hr]
    rfl
  rw [e, hb]
  exact bpost_yes rfl hX
set_option maxHeartbeats 4000000 in
theorem both_c1l (o : Int) (h1 : 7 ≤ o) (h2 : o ≤ 12) (x y : Int) (h : x < y) (w : World) : Calls Try.prog 96 #[.int .i64 o, .agg #[.int .i64 1, .int .i64 x, .string ⟨#[]⟩, .bool false], .agg #[.int .i64 1, .int .i64 y, .string ⟨#[]⟩, .bool false]] w (BPost w (opM o [⟨1, x, ⟨#[]⟩, false⟩, ⟨1, y, ⟨#[]⟩, false⟩])) := by
  have HO : Hid (ordV ⟨1, x, ⟨#[]⟩, false⟩ ⟨1, y, ⟨#[]⟩, false⟩ = some (-1)) := Lib.hid (by simp [ordV, cmpI, h])
  have hne : ¬ x = y := by omega
  have HZ1 : Hid (Rz (((w.alloc (.cells #[.int .i64 1, .int .i64 x, .string ⟨#[]⟩, .bool false] 57)).alloc (.cells #[.int .i64 1, .int .i64 y, .string ⟨#[]⟩, .bool false] 57)).alloc (.cells #[.int .i64 0, .int .i64 0, .string ⟨#[]⟩, .bool false] 57)) (w.heap.size + 1 + 1)) := Lib.hid (res3 (Below.refl _ _))
  have HB : Hid (Below w.heap.size w (((w.alloc (.cells #[.int .i64 1, .int .i64 x, .string ⟨#[]⟩, .bool false] 57)).alloc (.cells #[.int .i64 1, .int .i64 y, .string ⟨#[]⟩, .bool false] 57)).alloc (.cells #[.int .i64 0, .int .i64 0, .string ⟨#[]⟩, .bool false] 57))) := Lib.hid below3
  have HCS : Hid (o = 7 ∨ o = 8 ∨ o = 9 ∨ o = 10 ∨ o = 11 ∨ o = 12) := Lib.hid (by omega)
  have t4 : (o == 4) = false := by simp; omega
  have t5 : (o == 5) = false := by simp; omega
  have t6 : (o == 6) = false := by simp; omega
  have t14 : (o == 14) = false := by simp; omega
  have t15 : (o == 15) = false := by simp; omega
  clear h1 h2
  go_enter Try.func96, Try.ntmps96
  go_upto_region 15 with fail
  clear t4 t5 t6 t14 t15
  generalize hW : (((w.alloc (.cells #[.int .i64 1, .int .i64 x, .string ⟨#[]⟩, .bool false] 57)).alloc (.cells #[.int .i64 1, .int .i64 y, .string ⟨#[]⟩, .bool false] 57)).alloc (.cells #[.int .i64 0, .int .i64 0, .string ⟨#[]⟩, .bool false] 57)) = W at HZ1 HB ⊢
  clear hW
  obtain ⟨hlt1, p10, p11, p12, p13, f10, f11, f12, f13⟩ := HZ1.out.facts
  rcases HCS.out with rfl | rfl | rfl | rfl | rfl | rfl
  · go_wp2
    obtain ⟨k0, k1, k2, k3⟩ := four (put4 HZ1.out (.int .i64 3) (.int .i64 0) (.string ⟨#[]⟩) (.bool false))
    exact bodyPost_ret (v := .tuple #[.agg #[.int .i64 3, .int .i64 0, .string ⟨#[]⟩, .bool false], .bool true]) (by simp [results, Try.results96, go_sem, k0, k1, k2, k3]; try rfl) rfl (cmp_postN (by decide) (by decide) HO.out (by decide) (by first | exact below4 HB.out (w.heap.size + 1 + 1) (by omega) _ _ _ _ | exact (below4 HB.out (w.heap.size + 1 + 1) (by omega) _ _ _ _).drew))
  · go_wp2
    obtain ⟨k0, k1, k2, k3⟩ := four (put4 HZ1.out (.int .i64 3) (.int .i64 0) (.string ⟨#[]⟩) (.bool true))
    exact bodyPost_ret (v := .tuple #[.agg #[.int .i64 3, .int .i64 0, .string ⟨#[]⟩, .bool true], .bool true]) (by simp [results, Try.results96, go_sem, k0, k1, k2, k3]; try rfl) rfl (cmp_postN (by decide) (by decide) HO.out (by decide) (by first | exact below4 HB.out (w.heap.size + 1 + 1) (by omega) _ _ _ _ | exact (below4 HB.out (w.heap.size + 1 + 1) (by omega) _ _ _ _).drew))
  · go_wp2
    obtain ⟨k0, k1, k2, k3⟩ := four (put4 HZ1.out (.int .i64 3) (.int .i64 0) (.string ⟨#[]⟩) (.bool true))
    exact bodyPost_ret (v := .tuple #[.agg #[.int .i64 3, .int .i64 0, .string ⟨#[]⟩, .bool true], .bool true]) (by simp [results, Try.results96, go_sem, k0, k1, k2, k3]; try rfl) rfl (cmp_postN (by decide) (by decide) HO.out (by decide) (by first | exact below4 HB.out (w.heap.size + 1 + 1) (by omega) _ _ _ _ | exact (below4 HB.out (w.heap.size + 1 + 1) (by omega) _ _ _ _).drew))
  · go_wp2
    obtain ⟨k0, k1, k2, k3⟩ := four (put4 HZ1.out (.int .i64 3) (.int .i64 0) (.string ⟨#[]⟩) (.bool true))
    exact bodyPost_ret (v := .tuple #[.agg #[.int .i64 3, .int .i64 0, .string ⟨#[]⟩, .bool true], .bool true]) (by simp [results, Try.results96, go_sem, k0, k1, k2, k3]; try rfl) rfl (cmp_postN (by decide) (by decide) HO.out (by decide) (by first | exact below4 HB.out (w.heap.size + 1 + 1) (by omega) _ _ _ _ | exact (below4 HB.out (w.heap.size + 1 + 1) (by omega) _ _ _ _).drew))
  · go_wp2
    obtain ⟨k0, k1, k2, k3⟩ := four (put4 HZ1.out (.int .i64 3) (.int .i64 0) (.string ⟨#[]⟩) (.bool false))
    exact bodyPost_ret (v := .tuple #[.agg #[.int .i64 3, .int .i64 0, .string ⟨#[]⟩, .bool false], .bool true]) (by simp [results, Try.results96, go_sem, k0, k1, k2, k3]; try rfl) rfl (cmp_postN (by decide) (by decide) HO.out (by decide) (by first | exact below4 HB.out (w.heap.size + 1 + 1) (by omega) _ _ _ _ | exact (below4 HB.out (w.heap.size + 1 + 1) (by omega) _ _ _ _).drew))
  · go_wp2
    obtain ⟨k0, k1, k2, k3⟩ := four (put4 HZ1.out (.int .i64 3) (.int .i64 0) (.string ⟨#[]⟩) (.bool false))
    exact bodyPost_ret (v := .tuple #[.agg #[.int .i64 3, .int .i64 0, .string ⟨#[]⟩, .bool false], .bool true]) (by simp [results, Try.results96, go_sem, k0, k1, k2, k3]; try rfl) rfl (cmp_postN (by decide) (by decide) HO.out (by decide) (by first | exact below4 HB.out (w.heap.size + 1 + 1) (by omega) _ _ _ _ | exact (below4 HB.out (w.heap.size + 1 + 1) (by omega) _ _ _ _).drew))
set_option maxHeartbeats 4000000 in
theorem both_c1e (o : Int) (h1 : 7 ≤ o) (h2 : o ≤ 12) (x : Int) (w : World) : Calls Try.prog 96 #[.int .i64 o, .agg #[.int .i64 1, .int .i64 x, .string ⟨#[]⟩, .bool false], .agg #[.int .i64 1, .int .i64 x, .string ⟨#[]⟩, .bool false]] w (BPost w (opM o [⟨1, x, ⟨#[]⟩, false⟩, ⟨1, x, ⟨#[]⟩, false⟩])) := by
  have HO : Hid (ordV ⟨1, x, ⟨#[]⟩, false⟩ ⟨1, x, ⟨#[]⟩, false⟩ = some (0)) := Lib.hid (by simp [ordV, cmpI])
  have HZ1 : Hid (Rz (((w.alloc (.cells #[.int .i64 1, .int .i64 x, .string ⟨#[]⟩, .bool false] 57)).alloc (.cells #[.int .i64 1, .int .i64 x, .string ⟨#[]⟩, .bool false] 57)).alloc (.cells #[.int .i64 0, .int .i64 0, .string ⟨#[]⟩, .bool false] 57)) (w.heap.size + 1 + 1)) := Lib.hid (res3 (Below.refl _ _))
  have HB : Hid (Below w.heap.size w (((w.alloc (.cells #[.int .i64 1, .int .i64 x, .string ⟨#[]⟩, .bool false] 57)).alloc (.cells #[.int .i64 1, .int .i64 x, .string ⟨#[]⟩, .bool false] 57)).alloc (.cells #[.int .i64 0, .int .i64 0, .string ⟨#[]⟩, .bool false] 57))) := Lib.hid below3
  have HCS : Hid (o = 7 ∨ o = 8 ∨ o = 9 ∨ o = 10 ∨ o = 11 ∨ o = 12) := Lib.hid (by omega)
  have t4 : (o == 4) = false := by simp; omega
  have t5 : (o == 5) = false := by simp; omega
  have t6 : (o == 6) = false := by simp; omega
  have t14 : (o == 14) = false := by simp; omega
  have t15 : (o == 15) = false := by simp; omega
  clear h1 h2
  go_enter Try.func96, Try.ntmps96
  go_upto_region 15 with fail
  clear t4 t5 t6 t14 t15
  generalize hW : (((w.alloc (.cells #[.int .i64 1, .int .i64 x, .string ⟨#[]⟩, .bool false] 57)).alloc (.cells #[.int .i64 1, .int .i64 x, .string ⟨#[]⟩, .bool false] 57)).alloc (.cells #[.int .i64 0, .int .i64 0, .string ⟨#[]⟩, .bool false] 57)) = W at HZ1 HB ⊢
  clear hW
  obtain ⟨hlt1, p10, p11, p12, p13, f10, f11, f12, f13⟩ := HZ1.out.facts
  rcases HCS.out with rfl | rfl | rfl | rfl | rfl | rfl
  · go_wp2
    obtain ⟨k0, k1, k2, k3⟩ := four (put4 HZ1.out (.int .i64 3) (.int .i64 0) (.string ⟨#[]⟩) (.bool true))
    exact bodyPost_ret (v := .tuple #[.agg #[.int .i64 3, .int .i64 0, .string ⟨#[]⟩, .bool true], .bool true]) (by simp [results, Try.results96, go_sem, k0, k1, k2, k3]; try rfl) rfl (cmp_postN (by decide) (by decide) HO.out (by decide) (by first | exact below4 HB.out (w.heap.size + 1 + 1) (by omega) _ _ _ _ | exact (below4 HB.out (w.heap.size + 1 + 1) (by omega) _ _ _ _).drew))
  · go_wp2
    obtain ⟨k0, k1, k2, k3⟩ := four (put4 HZ1.out (.int .i64 3) (.int .i64 0) (.string ⟨#[]⟩) (.bool false))
    exact bodyPost_ret (v := .tuple #[.agg #[.int .i64 3, .int .i64 0, .string ⟨#[]⟩, .bool false], .bool true]) (by simp [results, Try.results96, go_sem, k0, k1, k2, k3]; try rfl) rfl (cmp_postN (by decide) (by decide) HO.out (by decide) (by first | exact below4 HB.out (w.heap.size + 1 + 1) (by omega) _ _ _ _ | exact (below4 HB.out (w.heap.size + 1 + 1) (by omega) _ _ _ _).drew))
  · go_wp2
    obtain ⟨k0, k1, k2, k3⟩ := four (put4 HZ1.out (.int .i64 3) (.int .i64 0) (.string ⟨#[]⟩) (.bool false))
    exact bodyPost_ret (v := .tuple #[.agg #[.int .i64 3, .int .i64 0, .string ⟨#[]⟩, .bool false], .bool true]) (by simp [results, Try.results96, go_sem, k0, k1, k2, k3]; try rfl) rfl (cmp_postN (by decide) (by decide) HO.out (by decide) (by first | exact below4 HB.out (w.heap.size + 1 + 1) (by omega) _ _ _ _ | exact (below4 HB.out (w.heap.size + 1 + 1) (by omega) _ _ _ _).drew))
  · go_wp2
    obtain ⟨k0, k1, k2, k3⟩ := four (put4 HZ1.out (.int .i64 3) (.int .i64 0) (.string ⟨#[]⟩) (.bool true))
    exact bodyPost_ret (v := .tuple #[.agg #[.int .i64 3, .int .i64 0, .string ⟨#[]⟩, .bool true], .bool true]) (by simp [results, Try.results96, go_sem, k0, k1, k2, k3]; try rfl) rfl (cmp_postN (by decide) (by decide) HO.out (by decide) (by first | exact below4 HB.out (w.heap.size + 1 + 1) (by omega) _ _ _ _ | exact (below4 HB.out (w.heap.size + 1 + 1) (by omega) _ _ _ _).drew))
  · go_wp2
    obtain ⟨k0, k1, k2, k3⟩ := four (put4 HZ1.out (.int .i64 3) (.int .i64 0) (.string ⟨#[]⟩) (.bool false))
    exact bodyPost_ret (v := .tuple #[.agg #[.int .i64 3, .int .i64 0, .string ⟨#[]⟩, .bool false], .bool true]) (by simp [results, Try.results96, go_sem, k0, k1, k2, k3]; try rfl) rfl (cmp_postN (by decide) (by decide) HO.out (by decide) (by first | exact below4 HB.out (w.heap.size + 1 + 1) (by omega) _ _ _ _ | exact (below4 HB.out (w.heap.size + 1 + 1) (by omega) _ _ _ _).drew))
  · go_wp2
    obtain ⟨k0, k1, k2, k3⟩ := four (put4 HZ1.out (.int .i64 3) (.int .i64 0) (.string ⟨#[]⟩) (.bool true))
    exact bodyPost_ret (v := .tuple #[.agg #[.int .i64 3, .int .i64 0, .string ⟨#[]⟩, .bool true], .bool true]) (by simp [results, Try.results96, go_sem, k0, k1, k2, k3]; try rfl) rfl (cmp_postN (by decide) (by decide) HO.out (by decide) (by first | exact below4 HB.out (w.heap.size + 1 + 1) (by omega) _ _ _ _ | exact (below4 HB.out (w.heap.size + 1 + 1) (by omega) _ _ _ _).drew))
end Go.Proofs.Ytopbildpeojgoaa.Evl
end

section
namespace Go.Proofs.Ytopbildpeojgoaa.Evl
open Go.RowKit Go.Proofs.Ytopbildpeojgoaa Go.Proofs.Ytopbildpeojgoaa.Ev Go.Proofs.Ytopbildpeojgoaa.Sch Go.Proofs.Ytopbildpeojgoaa.Ty Go.Proofs.Ytopbildpeojgoaa.Num
set_option linter.unusedVariables false
set_option maxRecDepth 100000
theorem cmp_postP {o : Int} {a b : VV} {r : Int} {bv : Bool} {w X : World} (h1 : 7 ≤ o) (h2 : o ≤ 12) (hr : ordV a b = some r) (hb : standM o r = bv) (hX : Below w.heap.size w X) : BPost w (opM o [a, b]) (.returned (.tuple #[.agg #[.int .i64 3, .int .i64 0, .string ⟨#[]⟩, .bool bv], .bool true])) X := by
  have e : opM o [a, b] = some (trV (standM o r)) := by
    simp only [opM]
    rw [if_neg (by omega), if_neg (by omega), hr]
    rfl
  rw [e, hb]
  exact bpost_yes rfl hX
set_option maxHeartbeats 4000000 in
theorem both_c1g (o : Int) (h1 : 7 ≤ o) (h2 : o ≤ 12) (x y : Int) (h : y < x) (w : World) : Calls Try.prog 96 #[.int .i64 o, .agg #[.int .i64 1, .int .i64 x, .string ⟨#[]⟩, .bool false], .agg #[.int .i64 1, .int .i64 y, .string ⟨#[]⟩, .bool false]] w (BPost w (opM o [⟨1, x, ⟨#[]⟩, false⟩, ⟨1, y, ⟨#[]⟩, false⟩])) := by
  have HO : Hid (ordV ⟨1, x, ⟨#[]⟩, false⟩ ⟨1, y, ⟨#[]⟩, false⟩ = some (1)) := Lib.hid (by simp [ordV, cmpI]; omega)
  have hne : ¬ x = y := by omega
  have hge : ¬ x < y := by omega
  clear h
  have HZ1 : Hid (Rz (((w.alloc (.cells #[.int .i64 1, .int .i64 x, .string ⟨#[]⟩, .bool false] 57)).alloc (.cells #[.int .i64 1, .int .i64 y, .string ⟨#[]⟩, .bool false] 57)).alloc (.cells #[.int .i64 0, .int .i64 0, .string ⟨#[]⟩, .bool false] 57)) (w.heap.size + 1 + 1)) := Lib.hid (res3 (Below.refl _ _))
  have HB : Hid (Below w.heap.size w (((w.alloc (.cells #[.int .i64 1, .int .i64 x, .string ⟨#[]⟩, .bool false] 57)).alloc (.cells #[.int .i64 1, .int .i64 y, .string ⟨#[]⟩, .bool false] 57)).alloc (.cells #[.int .i64 0, .int .i64 0, .string ⟨#[]⟩, .bool false] 57))) := Lib.hid below3
  have HCS : Hid (o = 7 ∨ o = 8 ∨ o = 9 ∨ o = 10 ∨ o = 11 ∨ o = 12) := Lib.hid (by omega)
  have t4 : (o == 4) = false := by simp; omega
  have t5 : (o == 5) = false := by simp; omega
  have t6 : (o == 6) = false := by simp; omega
  have t14 : (o == 14) = false := by simp; omega
  have t15 : (o == 15) = false := by simp; omega
  clear h1 h2
  go_enter Try.func96, Try.ntmps96
  go_upto_region 15 with fail
  clear t4 t5 t6 t14 t15
  generalize hW : (((w.alloc (.cells #[.int .i64 1, .int .i64 x, .string ⟨#[]⟩, .bool false] 57)).alloc (.cells #[.int .i64 1, .int .i64 y, .string ⟨#[]⟩, .bool false] 57)).alloc (.cells #[.int .i64 0, .int .i64 0, .string ⟨#[]⟩, .bool false] 57)) = W at HZ1 HB ⊢
  clear hW
  obtain ⟨hlt1, p10, p11, p12, p13, f10, f11, f12, f13⟩ := HZ1.out.facts
  rcases HCS.out with rfl | rfl | rfl | rfl | rfl | rfl
  · go_wp2
    obtain ⟨k0, k1, k2, k3⟩ := four (put4 HZ1.out (.int .i64 3) (.int .i64 0) (.string ⟨#[]⟩) (.bool false))
    exact bodyPost_ret (v := .tuple #[.agg #[.int .i64 3, .int .i64 0, .string ⟨#[]⟩, .bool false], .bool true]) (by simp [results, Try.results96, go_sem, k0, k1, k2, k3]; try rfl) rfl (cmp_postP (by decide) (by decide) HO.out (by decide) (by first | exact below4 HB.out (w.heap.size + 1 + 1) (by omega) _ _ _ _ | exact (below4 HB.out (w.heap.size + 1 + 1) (by omega) _ _ _ _).drew))
  · go_wp2
    obtain ⟨k0, k1, k2, k3⟩ := four (put4 HZ1.out (.int .i64 3) (.int .i64 0) (.string ⟨#[]⟩) (.bool true))
    exact bodyPost_ret (v := .tuple #[.agg #[.int .i64 3, .int .i64 0, .string ⟨#[]⟩, .bool true], .bool true]) (by simp [results, Try.results96, go_sem, k0, k1, k2, k3]; try rfl) rfl (cmp_postP (by decide) (by decide) HO.out (by decide) (by first | exact below4 HB.out (w.heap.size + 1 + 1) (by omega) _ _ _ _ | exact (below4 HB.out (w.heap.size + 1 + 1) (by omega) _ _ _ _).drew))
  · go_wp2
    obtain ⟨k0, k1, k2, k3⟩ := four (put4 HZ1.out (.int .i64 3) (.int .i64 0) (.string ⟨#[]⟩) (.bool false))
    exact bodyPost_ret (v := .tuple #[.agg #[.int .i64 3, .int .i64 0, .string ⟨#[]⟩, .bool false], .bool true]) (by simp [results, Try.results96, go_sem, k0, k1, k2, k3]; try rfl) rfl (cmp_postP (by decide) (by decide) HO.out (by decide) (by first | exact below4 HB.out (w.heap.size + 1 + 1) (by omega) _ _ _ _ | exact (below4 HB.out (w.heap.size + 1 + 1) (by omega) _ _ _ _).drew))
  · go_wp2
    obtain ⟨k0, k1, k2, k3⟩ := four (put4 HZ1.out (.int .i64 3) (.int .i64 0) (.string ⟨#[]⟩) (.bool false))
    exact bodyPost_ret (v := .tuple #[.agg #[.int .i64 3, .int .i64 0, .string ⟨#[]⟩, .bool false], .bool true]) (by simp [results, Try.results96, go_sem, k0, k1, k2, k3]; try rfl) rfl (cmp_postP (by decide) (by decide) HO.out (by decide) (by first | exact below4 HB.out (w.heap.size + 1 + 1) (by omega) _ _ _ _ | exact (below4 HB.out (w.heap.size + 1 + 1) (by omega) _ _ _ _).drew))
  · go_wp2
    obtain ⟨k0, k1, k2, k3⟩ := four (put4 HZ1.out (.int .i64 3) (.int .i64 0) (.string ⟨#[]⟩) (.bool true))
    exact bodyPost_ret (v := .tuple #[.agg #[.int .i64 3, .int .i64 0, .string ⟨#[]⟩, .bool true], .bool true]) (by simp [results, Try.results96, go_sem, k0, k1, k2, k3]; try rfl) rfl (cmp_postP (by decide) (by decide) HO.out (by decide) (by first | exact below4 HB.out (w.heap.size + 1 + 1) (by omega) _ _ _ _ | exact (below4 HB.out (w.heap.size + 1 + 1) (by omega) _ _ _ _).drew))
  · go_wp2
    obtain ⟨k0, k1, k2, k3⟩ := four (put4 HZ1.out (.int .i64 3) (.int .i64 0) (.string ⟨#[]⟩) (.bool true))
    exact bodyPost_ret (v := .tuple #[.agg #[.int .i64 3, .int .i64 0, .string ⟨#[]⟩, .bool true], .bool true]) (by simp [results, Try.results96, go_sem, k0, k1, k2, k3]; try rfl) rfl (cmp_postP (by decide) (by decide) HO.out (by decide) (by first | exact below4 HB.out (w.heap.size + 1 + 1) (by omega) _ _ _ _ | exact (below4 HB.out (w.heap.size + 1 + 1) (by omega) _ _ _ _).drew))
set_option maxHeartbeats 4000000 in
theorem both_c2l (o : Int) (h1 : 7 ≤ o) (h2 : o ≤ 12) (s t : ByteArray) (h : Op.bytesLess s.toList t.toList = true) (hne : ¬ s.toList = t.toList) (w : World) : Calls Try.prog 96 #[.int .i64 o, .agg #[.int .i64 2, .int .i64 0, .string s, .bool false], .agg #[.int .i64 2, .int .i64 0, .string t, .bool false]] w (BPost w (opM o [⟨2, 0, s, false⟩, ⟨2, 0, t, false⟩])) := by
  have HO : Hid (ordV ⟨2, 0, s, false⟩ ⟨2, 0, t, false⟩ = some (-1)) := Lib.hid (by simp [ordV, cmpS, h])
  have HZ1 : Hid (Rz (((w.alloc (.cells #[.int .i64 2, .int .i64 0, .string s, .bool false] 57)).alloc (.cells #[.int .i64 2, .int .i64 0, .string t, .bool false] 57)).alloc (.cells #[.int .i64 0, .int .i64 0, .string ⟨#[]⟩, .bool false] 57)) (w.heap.size + 1 + 1)) := Lib.hid (res3 (Below.refl _ _))
  have HB : Hid (Below w.heap.size w (((w.alloc (.cells #[.int .i64 2, .int .i64 0, .string s, .bool false] 57)).alloc (.cells #[.int .i64 2, .int .i64 0, .string t, .bool false] 57)).alloc (.cells #[.int .i64 0, .int .i64 0, .string ⟨#[]⟩, .bool false] 57))) := Lib.hid below3
  have HCS : Hid (o = 7 ∨ o = 8 ∨ o = 9 ∨ o = 10 ∨ o = 11 ∨ o = 12) := Lib.hid (by omega)
  have t4 : (o == 4) = false := by simp; omega
  have t5 : (o == 5) = false := by simp; omega
  have t6 : (o == 6) = false := by simp; omega
  have t14 : (o == 14) = false := by simp; omega
  have t15 : (o == 15) = false := by simp; omega
  clear h1 h2
  go_enter Try.func96, Try.ntmps96
  go_upto_region 15 with fail
  clear t4 t5 t6 t14 t15
  generalize hW : (((w.alloc (.cells #[.int .i64 2, .int .i64 0, .string s, .bool false] 57)).alloc (.cells #[.int .i64 2, .int .i64 0, .string t, .bool false] 57)).alloc (.cells #[.int .i64 0, .int .i64 0, .string ⟨#[]⟩, .bool false] 57)) = W at HZ1 HB ⊢
  clear hW
  obtain ⟨hlt1, p10, p11, p12, p13, f10, f11, f12, f13⟩ := HZ1.out.facts
  rcases HCS.out with rfl | rfl | rfl | rfl | rfl | rfl
  · go_wp2
    obtain ⟨k0, k1, k2, k3⟩ := four (put4 HZ1.out (.int .i64 3) (.int .i64 0) (.string ⟨#[]⟩) (.bool false))
    exact bodyPost_ret (v := .tuple #[.agg #[.int .i64 3, .int .i64 0, .string ⟨#[]⟩, .bool false], .bool true]) (by simp [results, Try.results96, go_sem, k0, k1, k2, k3]; try rfl) rfl (cmp_postP (by decide) (by decide) HO.out (by decide) (by first | exact below4 HB.out (w.heap.size + 1 + 1) (by omega) _ _ _ _ | exact (below4 HB.out (w.heap.size + 1 + 1) (by omega) _ _ _ _).drew))
  · go_wp2
    obtain ⟨k0, k1, k2, k3⟩ := four (put4 HZ1.out (.int .i64 3) (.int .i64 0) (.string ⟨#[]⟩) (.bool true))
    exact bodyPost_ret (v := .tuple #[.agg #[.int .i64 3, .int .i64 0, .string ⟨#[]⟩, .bool true], .bool true]) (by simp [results, Try.results96, go_sem, k0, k1, k2, k3]; try rfl) rfl (cmp_postP (by decide) (by decide) HO.out (by decide) (by first | exact below4 HB.out (w.heap.size + 1 + 1) (by omega) _ _ _ _ | exact (below4 HB.out (w.heap.size + 1 + 1) (by omega) _ _ _ _).drew))
  · go_wp2
    obtain ⟨k0, k1, k2, k3⟩ := four (put4 HZ1.out (.int .i64 3) (.int .i64 0) (.string ⟨#[]⟩) (.bool true))
    exact bodyPost_ret (v := .tuple #[.agg #[.int .i64 3, .int .i64 0, .string ⟨#[]⟩, .bool true], .bool true]) (by simp [results, Try.results96, go_sem, k0, k1, k2, k3]; try rfl) rfl (cmp_postP (by decide) (by decide) HO.out (by decide) (by first | exact below4 HB.out (w.heap.size + 1 + 1) (by omega) _ _ _ _ | exact (below4 HB.out (w.heap.size + 1 + 1) (by omega) _ _ _ _).drew))
  · go_wp2
    obtain ⟨k0, k1, k2, k3⟩ := four (put4 HZ1.out (.int .i64 3) (.int .i64 0) (.string ⟨#[]⟩) (.bool true))
    exact bodyPost_ret (v := .tuple #[.agg #[.int .i64 3, .int .i64 0, .string ⟨#[]⟩, .bool true], .bool true]) (by simp [results, Try.results96, go_sem, k0, k1, k2, k3]; try rfl) rfl (cmp_postP (by decide) (by decide) HO.out (by decide) (by first | exact below4 HB.out (w.heap.size + 1 + 1) (by omega) _ _ _ _ | exact (below4 HB.out (w.heap.size + 1 + 1) (by omega) _ _ _ _).drew))
  · go_wp2
    obtain ⟨k0, k1, k2, k3⟩ := four (put4 HZ1.out (.int .i64 3) (.int .i64 0) (.string ⟨#[]⟩) (.bool false))
    exact bodyPost_ret (v := .tuple #[.agg #[.int .i64 3, .int .i64 0, .string ⟨#[]⟩, .bool false], .bool true]) (by simp [results, Try.results96, go_sem, k0, k1, k2, k3]; try rfl) rfl (cmp_postP (by decide) (by decide) HO.out (by decide) (by first | exact below4 HB.out (w.heap.size + 1 + 1) (by omega) _ _ _ _ | exact (below4 HB.out (w.heap.size + 1 + 1) (by omega) _ _ _ _).drew))
  · go_wp2
    obtain ⟨k0, k1, k2, k3⟩ := four (put4 HZ1.out (.int .i64 3) (.int .i64 0) (.string ⟨#[]⟩) (.bool false))
    exact bodyPost_ret (v := .tuple #[.agg #[.int .i64 3, .int .i64 0, .string ⟨#[]⟩, .bool false], .bool true]) (by simp [results, Try.results96, go_sem, k0, k1, k2, k3]; try rfl) rfl (cmp_postP (by decide) (by decide) HO.out (by decide) (by first | exact below4 HB.out (w.heap.size + 1 + 1) (by omega) _ _ _ _ | exact (below4 HB.out (w.heap.size + 1 + 1) (by omega) _ _ _ _).drew))
end Go.Proofs.Ytopbildpeojgoaa.Evl
end

section
namespace Go.Proofs.Ytopbildpeojgoaa.Evl
open Go.RowKit Go.Proofs.Ytopbildpeojgoaa Go.Proofs.Ytopbildpeojgoaa.Ev Go.Proofs.Ytopbildpeojgoaa.Sch Go.Proofs.Ytopbildpeojgoaa.Ty Go.Proofs.Ytopbildpeojgoaa.Num
set_option linter.unusedVariables false
set_option maxRecDepth 100000
theorem cmp_postQ {o : Int} {a b : VV} {r : Int} {bv : Bool} {w X : World} (h1 : 7 ≤ o) (h2 : o ≤ 12) (hr : ordV a b = some r) (hb : standM o r = bv) (hX : Below w.heap.size w X) : BPost w (opM o [a, b]) (.returned (.tuple #[.agg #[.int .i64 3, .int .i64 0, .string ⟨#[]⟩, .bool bv], .bool true])) X := by
  have e : opM o [a, b] = some (trV (standM o r)) := by
    simp only [opM]
    rw [if_neg (by omega), if_neg (by omega), hr]
    rfl
  rw [e, hb]
  exact bpost_yes rfl hX
set_option maxHeartbeats 4000000 in
theorem both_c2e (o : Int) (h1 : 7 ≤ o) (h2 : o ≤ 12) (s : ByteArray) (h : Op.bytesLess s.toList s.toList = false) (w : World) : Calls Try.prog 96 #[.int .i64 o, .agg #[.int .i64 2, .int .i64 0, .string s, .bool false], .agg #[.int .i64 2, .int .i64 0, .string s, .bool false]] w (BPost w (opM o [⟨2, 0, s, false⟩, ⟨2, 0, s, false⟩])) := by
  have HO : Hid (ordV ⟨2, 0, s, false⟩ ⟨2, 0, s, false⟩ = some (0)) := Lib.hid (by simp [ordV, cmpS, h])
  have HZ1 : Hid (Rz (((w.alloc (.cells #[.int .i64 2, .int .i64 0, .string s, .bool false] 57)).alloc (.cells #[.int .i64 2, .int .i64 0, .string s, .bool false] 57)).alloc (.cells #[.int .i64 0, .int .i64 0, .string ⟨#[]⟩, .bool false] 57)) (w.heap.size + 1 + 1)) := Lib.hid (res3 (Below.refl _ _))
  have HB : Hid (Below w.heap.size w (((w.alloc (.cells #[.int .i64 2, .int .i64 0, .string s, .bool false] 57)).alloc (.cells #[.int .i64 2, .int .i64 0, .string s, .bool false] 57)).alloc (.cells #[.int .i64 0, .int .i64 0, .string ⟨#[]⟩, .bool false] 57))) := Lib.hid below3
  have HCS : Hid (o = 7 ∨ o = 8 ∨ o = 9 ∨ o = 10 ∨ o = 11 ∨ o = 12) := Lib.hid (by omega)
  have t4 : (o == 4) = false := by simp; omega
  have t5 : (o == 5) = false := by simp; omega
  have t6 : (o == 6) = false := by simp; omega
  have t14 : (o == 14) = false := by simp; omega
  have t15 : (o == 15) = false := by simp; omega
  clear h1 h2
  go_enter Try.func96, Try.ntmps96
  go_upto_region 15 with fail
  clear t4 t5 t6 t14 t15
  generalize hW : (((w.alloc (.cells #[.int .i64 2, .int .i64 0, .string s, .bool false] 57)).alloc (.cells #[.int .i64 2, .int .i64 0, .string s, .bool false] 57)).alloc (.cells #[.int .i64 0, .int .i64 0, .string ⟨#[]⟩, .bool false] 57)) = W at HZ1 HB ⊢
  clear hW
  obtain ⟨hlt1, p10, p11, p12, p13, f10, f11, f12, f13⟩ := HZ1.out.facts
  rcases HCS.out with rfl | rfl | rfl | rfl | rfl | rfl
  · go_wp2
    obtain ⟨k0, k1, k2, k3⟩ := four (put4 HZ1.out (.int .i64 3) (.int .i64 0) (.string ⟨#[]⟩) (.bool true))
    exact bodyPost_ret (v := .tuple #[.agg #[.int .i64 3, .int .i64 0, .string ⟨#[]⟩, .bool true], .bool true]) (by simp [results, Try.results96, go_sem, k0, k1, k2, k3]; try rfl) rfl (cmp_postQ (by decide) (by decide) HO.out (by decide) (by first | exact below4 HB.out (w.heap.size + 1 + 1) (by omega) _ _ _ _ | exact (below4 HB.out (w.heap.size + 1 + 1) (by omega) _ _ _ _).drew))
  · go_wp2
    obtain ⟨k0, k1, k2, k3⟩ := four (put4 HZ1.out (.int .i64 3) (.int .i64 0) (.string ⟨#[]⟩) (.bool false))
    exact bodyPost_ret (v := .tuple #[.agg #[.int .i64 3, .int .i64 0, .string ⟨#[]⟩, .bool false], .bool true]) (by simp [results, Try.results96, go_sem, k0, k1, k2, k3]; try rfl) rfl (cmp_postQ (by decide) (by decide) HO.out (by decide) (by first | exact below4 HB.out (w.heap.size + 1 + 1) (by omega) _ _ _ _ | exact (below4 HB.out (w.heap.size + 1 + 1) (by omega) _ _ _ _).drew))
  · go_wp2
    obtain ⟨k0, k1, k2, k3⟩ := four (put4 HZ1.out (.int .i64 3) (.int .i64 0) (.string ⟨#[]⟩) (.bool false))
    exact bodyPost_ret (v := .tuple #[.agg #[.int .i64 3, .int .i64 0, .string ⟨#[]⟩, .bool false], .bool true]) (by simp [results, Try.results96, go_sem, k0, k1, k2, k3]; try rfl) rfl (cmp_postQ (by decide) (by decide) HO.out (by decide) (by first | exact below4 HB.out (w.heap.size + 1 + 1) (by omega) _ _ _ _ | exact (below4 HB.out (w.heap.size + 1 + 1) (by omega) _ _ _ _).drew))
  · go_wp2
    obtain ⟨k0, k1, k2, k3⟩ := four (put4 HZ1.out (.int .i64 3) (.int .i64 0) (.string ⟨#[]⟩) (.bool true))
    exact bodyPost_ret (v := .tuple #[.agg #[.int .i64 3, .int .i64 0, .string ⟨#[]⟩, .bool true], .bool true]) (by simp [results, Try.results96, go_sem, k0, k1, k2, k3]; try rfl) rfl (cmp_postQ (by decide) (by decide) HO.out (by decide) (by first | exact below4 HB.out (w.heap.size + 1 + 1) (by omega) _ _ _ _ | exact (below4 HB.out (w.heap.size + 1 + 1) (by omega) _ _ _ _).drew))
  · go_wp2
    obtain ⟨k0, k1, k2, k3⟩ := four (put4 HZ1.out (.int .i64 3) (.int .i64 0) (.string ⟨#[]⟩) (.bool false))
    exact bodyPost_ret (v := .tuple #[.agg #[.int .i64 3, .int .i64 0, .string ⟨#[]⟩, .bool false], .bool true]) (by simp [results, Try.results96, go_sem, k0, k1, k2, k3]; try rfl) rfl (cmp_postQ (by decide) (by decide) HO.out (by decide) (by first | exact below4 HB.out (w.heap.size + 1 + 1) (by omega) _ _ _ _ | exact (below4 HB.out (w.heap.size + 1 + 1) (by omega) _ _ _ _).drew))
  · go_wp2
    obtain ⟨k0, k1, k2, k3⟩ := four (put4 HZ1.out (.int .i64 3) (.int .i64 0) (.string ⟨#[]⟩) (.bool true))
    exact bodyPost_ret (v := .tuple #[.agg #[.int .i64 3, .int .i64 0, .string ⟨#[]⟩, .bool true], .bool true]) (by simp [results, Try.results96, go_sem, k0, k1, k2, k3]; try rfl) rfl (cmp_postQ (by decide) (by decide) HO.out (by decide) (by first | exact below4 HB.out (w.heap.size + 1 + 1) (by omega) _ _ _ _ | exact (below4 HB.out (w.heap.size + 1 + 1) (by omega) _ _ _ _).drew))
set_option maxHeartbeats 4000000 in
theorem both_c2g (o : Int) (h1 : 7 ≤ o) (h2 : o ≤ 12) (s t : ByteArray) (h : Op.bytesLess s.toList t.toList = false) (hne : ¬ s.toList = t.toList) (w : World) : Calls Try.prog 96 #[.int .i64 o, .agg #[.int .i64 2, .int .i64 0, .string s, .bool false], .agg #[.int .i64 2, .int .i64 0, .string t, .bool false]] w (BPost w (opM o [⟨2, 0, s, false⟩, ⟨2, 0, t, false⟩])) := by
  have HO : Hid (ordV ⟨2, 0, s, false⟩ ⟨2, 0, t, false⟩ = some (1)) := Lib.hid (by simp [ordV, cmpS, h, hne])
  have HZ1 : Hid (Rz (((w.alloc (.cells #[.int .i64 2, .int .i64 0, .string s, .bool false] 57)).alloc (.cells #[.int .i64 2, .int .i64 0, .string t, .bool false] 57)).alloc (.cells #[.int .i64 0, .int .i64 0, .string ⟨#[]⟩, .bool false] 57)) (w.heap.size + 1 + 1)) := Lib.hid (res3 (Below.refl _ _))
  have HB : Hid (Below w.heap.size w (((w.alloc (.cells #[.int .i64 2, .int .i64 0, .string s, .bool false] 57)).alloc (.cells #[.int .i64 2, .int .i64 0, .string t, .bool false] 57)).alloc (.cells #[.int .i64 0, .int .i64 0, .string ⟨#[]⟩, .bool false] 57))) := Lib.hid below3
  have HCS : Hid (o = 7 ∨ o = 8 ∨ o = 9 ∨ o = 10 ∨ o = 11 ∨ o = 12) := Lib.hid (by omega)
  have t4 : (o == 4) = false := by simp; omega
  have t5 : (o == 5) = false := by simp; omega
  have t6 : (o == 6) = false := by simp; omega
  have t14 : (o == 14) = false := by simp; omega
  have t15 : (o == 15) = false := by simp; omega
  clear h1 h2
  go_enter Try.func96, Try.ntmps96
  go_upto_region 15 with fail
  clear t4 t5 t6 t14 t15
  generalize hW : (((w.alloc (.cells #[.int .i64 2, .int .i64 0, .string s, .bool false] 57)).alloc (.cells #[.int .i64 2, .int .i64 0, .string t, .bool false] 57)).alloc (.cells #[.int .i64 0, .int .i64 0, .string ⟨#[]⟩, .bool false] 57)) = W at HZ1 HB ⊢
  clear hW
  obtain ⟨hlt1, p10, p11, p12, p13, f10, f11, f12, f13⟩ := HZ1.out.facts
  rcases HCS.out with rfl | rfl | rfl | rfl | rfl | rfl
  · go_wp2
    obtain ⟨k0, k1, k2, k3⟩ := four (put4 HZ1.out (.int .i64 3) (.int .i64 0) (.string ⟨#[]⟩) (.bool false))
    exact bodyPost_ret (v := .tuple #[.agg #[.int .i64 3, .int .i64 0, .string ⟨#[]⟩, .bool false], .bool true]) (by simp [results, Try.results96, go_sem, k0, k1, k2, k3]; try rfl) rfl (cmp_postQ (by decide) (by decide) HO.out (by decide) (by first | exact below4 HB.out (w.heap.size + 1 + 1) (by omega) _ _ _ _ | exact (below4 HB.out (w.heap.size + 1 + 1) (by omega) _ _ _ _).drew))
  · go_wp2
    obtain ⟨k0, k1, k2, k3⟩ := four (put4 HZ1.out (.int .i64 3) (.int .i64 0) (.string ⟨#[]⟩) (.bool true))
    exact bodyPost_ret (v := .tuple #[.agg #[.int .i64 3, .int .i64 0, .string ⟨#[]⟩, .bool true], .bool true]) (by simp [results, Try.results96, go_sem, k0, k1, k2, k3]; try rfl) rfl (cmp_postQ (by decide) (by decide) HO.out (by decide) (by first | exact below4 HB.out (w.heap.size + 1 + 1) (by omega) _ _ _ _ | exact (below4 HB.out (w.heap.size + 1 + 1) (by omega) _ _ _ _).drew))
  · go_wp2
    obtain ⟨k0, k1, k2, k3⟩ := four (put4 HZ1.out (.int .i64 3) (.int .i64 0) (.string ⟨#[]⟩) (.bool false))
    exact bodyPost_ret (v := .tuple #[.agg #[.int .i64 3, .int .i64 0, .string ⟨#[]⟩, .bool false], .bool true]) (by simp [results, Try.results96, go_sem, k0, k1, k2, k3]; try rfl) rfl (cmp_postQ (by decide) (by decide) HO.out (by decide) (by first | exact below4 HB.out (w.heap.size + 1 + 1) (by omega) _ _ _ _ | exact (below4 HB.out (w.heap.size + 1 + 1) (by omega) _ _ _ _).drew))
  · go_wp2
    obtain ⟨k0, k1, k2, k3⟩ := four (put4 HZ1.out (.int .i64 3) (.int .i64 0) (.string ⟨#[]⟩) (.bool false))
    exact bodyPost_ret (v := .tuple #[.agg #[.int .i64 3, .int .i64 0, .string ⟨#[]⟩, .bool false], .bool true]) (by simp [results, Try.results96, go_sem, k0, k1, k2, k3]; try rfl) rfl (cmp_postQ (by decide) (by decide) HO.out (by decide) (by first | exact below4 HB.out (w.heap.size + 1 + 1) (by omega) _ _ _ _ | exact (below4 HB.out (w.heap.size + 1 + 1) (by omega) _ _ _ _).drew))
  · go_wp2
    obtain ⟨k0, k1, k2, k3⟩ := four (put4 HZ1.out (.int .i64 3) (.int .i64 0) (.string ⟨#[]⟩) (.bool true))
    exact bodyPost_ret (v := .tuple #[.agg #[.int .i64 3, .int .i64 0, .string ⟨#[]⟩, .bool true], .bool true]) (by simp [results, Try.results96, go_sem, k0, k1, k2, k3]; try rfl) rfl (cmp_postQ (by decide) (by decide) HO.out (by decide) (by first | exact below4 HB.out (w.heap.size + 1 + 1) (by omega) _ _ _ _ | exact (below4 HB.out (w.heap.size + 1 + 1) (by omega) _ _ _ _).drew))
  · go_wp2
    obtain ⟨k0, k1, k2, k3⟩ := four (put4 HZ1.out (.int .i64 3) (.int .i64 0) (.string ⟨#[]⟩) (.bool true))
    exact bodyPost_ret (v := .tuple #[.agg #[.int .i64 3, .int .i64 0, .string ⟨#[]⟩, .bool true], .bool true]) (by simp [results, Try.results96, go_sem, k0, k1, k2, k3]; try rfl) rfl (cmp_postQ (by decide) (by decide) HO.out (by decide) (by first | exact below4 HB.out (w.heap.size + 1 + 1) (by omega) _ _ _ _ | exact (below4 HB.out (w.heap.size + 1 + 1) (by omega) _ _ _ _).drew))
end Go.Proofs.Ytopbildpeojgoaa.Evl
end

section
namespace Go.Proofs.Ytopbildpeojgoaa.Evl
open Go.RowKit Go.Proofs.Ytopbildpeojgoaa Go.Proofs.Ytopbildpeojgoaa.Ev Go.Proofs.Ytopbildpeojgoaa.Sch Go.Proofs.Ytopbildpeojgoaa.Ty Go.Proofs.Ytopbildpeojgoaa.Num
set_option linter.unusedVariables false
set_option maxRecDepth 100000
theorem cmp_postR {o : Int} {a b : VV} {r : Int} {bv : Bool} {w X : World} (h1 : 7 ≤ o) (h2 : o ≤ 12) (hr : ordV a b = some r) (hb : standM o r = bv) (hX : Below w.heap.size w X) : BPost w (opM o [a, b]) (.returned (.tuple #[.agg #[.int .i64 3, .int .i64 0, .string ⟨#[]⟩, .bool bv], .bool true])) X := by
  have e : opM o [a, b] = some (trV (standM o r)) := by
    simp only [opM]
    rw [if_neg (by omega), if_neg (by omega), hr]
    rfl
  rw [e, hb]
  exact bpost_yes rfl hX
set_option maxHeartbeats 4000000 in
theorem both_c3tt (o : Int) (h1 : 7 ≤ o) (h2 : o ≤ 12)  (w : World) : Calls Try.prog 96 #[.int .i64 o, .agg #[.int .i64 3, .int .i64 0, .string ⟨#[]⟩, .bool true], .agg #[.int .i64 3, .int .i64 0, .string ⟨#[]⟩, .bool true]] w (BPost w (opM o [⟨3, 0, ⟨#[]⟩, true⟩, ⟨3, 0, ⟨#[]⟩, true⟩])) := by
  have HO : Hid (ordV ⟨3, 0, ⟨#[]⟩, true⟩ ⟨3, 0, ⟨#[]⟩, true⟩ = some (0)) := Lib.hid (by simp [ordV, cmpI, rk])
  have HZ1 : Hid (Rz (((w.alloc (.cells #[.int .i64 3, .int .i64 0, .string ⟨#[]⟩, .bool true] 57)).alloc (.cells #[.int .i64 3, .int .i64 0, .string ⟨#[]⟩, .bool true] 57)).alloc (.cells #[.int .i64 0, .int .i64 0, .string ⟨#[]⟩, .bool false] 57)) (w.heap.size + 1 + 1)) := Lib.hid (res3 (Below.refl _ _))
  have HB : Hid (Below w.heap.size w (((w.alloc (.cells #[.int .i64 3, .int .i64 0, .string ⟨#[]⟩, .bool true] 57)).alloc (.cells #[.int .i64 3, .int .i64 0, .string ⟨#[]⟩, .bool true] 57)).alloc (.cells #[.int .i64 0, .int .i64 0, .string ⟨#[]⟩, .bool false] 57))) := Lib.hid below3
  have HCS : Hid (o = 7 ∨ o = 8 ∨ o = 9 ∨ o = 10 ∨ o = 11 ∨ o = 12) := Lib.hid (by omega)
  have t4 : (o == 4) = false := by simp; omega
  have t5 : (o == 5) = false := by simp; omega
  have t6 : (o == 6) = false := by simp; omega
  have t14 : (o == 14) = false := by simp; omega
  have t15 : (o == 15) = false := by simp; omega
  clear h1 h2
  go_enter Try.func96, Try.ntmps96
  go_upto_region 15 with fail
  clear t4 t5 t6 t14 t15
  generalize hW : (((w.alloc (.cells #[.int .i64 3, .int .i64 0, .string ⟨#[]⟩, .bool true] 57)).alloc (.cells #[.int .i64 3, .int .i64 0, .string ⟨#[]⟩, .bool true] 57)).alloc (.cells #[.int .i64 0, .int .i64 0, .string ⟨#[]⟩, .bool false] 57)) = W at HZ1 HB ⊢
  clear hW
  obtain ⟨hlt1, p10, p11, p12, p13, f10, f11, f12, f13⟩ := HZ1.out.facts
  rcases HCS.out with rfl | rfl | rfl | rfl | rfl | rfl
  · go_wp2
    obtain ⟨k0, k1, k2, k3⟩ := four (put4 HZ1.out (.int .i64 3) (.int .i64 0) (.string ⟨#[]⟩) (.bool true))
    exact bodyPost_ret (v := .tuple #[.agg #[.int .i64 3, .int .i64 0, .string ⟨#[]⟩, .bool true], .bool true]) (by simp [results, Try.results96, go_sem, k0, k1, k2, k3]; try rfl) rfl (cmp_postR (by decide) (by decide) HO.out (by decide) (by first | exact below4 HB.out (w.heap.size + 1 + 1) (by omega) _ _ _ _ | exact (below4 HB.out (w.heap.size + 1 + 1) (by omega) _ _ _ _).drew))
  · go_wp2
    obtain ⟨k0, k1, k2, k3⟩ := four (put4 HZ1.out (.int .i64 3) (.int .i64 0) (.string ⟨#[]⟩) (.bool false))
    exact bodyPost_ret (v := .tuple #[.agg #[.int .i64 3, .int .i64 0, .string ⟨#[]⟩, .bool false], .bool true]) (by simp [results, Try.results96, go_sem, k0, k1, k2, k3]; try rfl) rfl (cmp_postR (by decide) (by decide) HO.out (by decide) (by first | exact below4 HB.out (w.heap.size + 1 + 1) (by omega) _ _ _ _ | exact (below4 HB.out (w.heap.size + 1 + 1) (by omega) _ _ _ _).drew))
  · go_wp2
    obtain ⟨k0, k1, k2, k3⟩ := four (put4 HZ1.out (.int .i64 3) (.int .i64 0) (.string ⟨#[]⟩) (.bool false))
    exact bodyPost_ret (v := .tuple #[.agg #[.int .i64 3, .int .i64 0, .string ⟨#[]⟩, .bool false], .bool true]) (by simp [results, Try.results96, go_sem, k0, k1, k2, k3]; try rfl) rfl (cmp_postR (by decide) (by decide) HO.out (by decide) (by first | exact below4 HB.out (w.heap.size + 1 + 1) (by omega) _ _ _ _ | exact (below4 HB.out (w.heap.size + 1 + 1) (by omega) _ _ _ _).drew))
  · go_wp2
    obtain ⟨k0, k1, k2, k3⟩ := four (put4 HZ1.out (.int .i64 3) (.int .i64 0) (.string ⟨#[]⟩) (.bool true))
    exact bodyPost_ret (v := .tuple #[.agg #[.int .i64 3, .int .i64 0, .string ⟨#[]⟩, .bool true], .bool true]) (by simp [results, Try.results96, go_sem, k0, k1, k2, k3]; try rfl) rfl (cmp_postR (by decide) (by decide) HO.out (by decide) (by first | exact below4 HB.out (w.heap.size + 1 + 1) (by omega) _ _ _ _ | exact (below4 HB.out (w.heap.size + 1 + 1) (by omega) _ _ _ _).drew))
  · go_wp2
    obtain ⟨k0, k1, k2, k3⟩ := four (put4 HZ1.out (.int .i64 3) (.int .i64 0) (.string ⟨#[]⟩) (.bool false))
    exact bodyPost_ret (v := .tuple #[.agg #[.int .i64 3, .int .i64 0, .string ⟨#[]⟩, .bool false], .bool true]) (by simp [results, Try.results96, go_sem, k0, k1, k2, k3]; try rfl) rfl (cmp_postR (by decide) (by decide) HO.out (by decide) (by first | exact below4 HB.out (w.heap.size + 1 + 1) (by omega) _ _ _ _ | exact (below4 HB.out (w.heap.size + 1 + 1) (by omega) _ _ _ _).drew))
  · go_wp2
    obtain ⟨k0, k1, k2, k3⟩ := four (put4 HZ1.out (.int .i64 3) (.int .i64 0) (.string ⟨#[]⟩) (.bool true))
    exact bodyPost_ret (v := .tuple #[.agg #[.int .i64 3, .int .i64 0, .string ⟨#[]⟩, .bool true], .bool true]) (by simp [results, Try.results96, go_sem, k0, k1, k2, k3]; try rfl) rfl (cmp_postR (by decide) (by decide) HO.out (by decide) (by first | exact below4 HB.out (w.heap.size + 1 + 1) (by omega) _ _ _ _ | exact (below4 HB.out (w.heap.size + 1 + 1) (by omega) _ _ _ _).drew))
set_option maxHeartbeats 4000000 in
theorem both_c3tf (o : Int) (h1 : 7 ≤ o) (h2 : o ≤ 12)  (w : World) : Calls Try.prog 96 #[.int .i64 o, .agg #[.int .i64 3, .int .i64 0, .string ⟨#[]⟩, .bool true], .agg #[.int .i64 3, .int .i64 0, .string ⟨#[]⟩, .bool false]] w (BPost w (opM o [⟨3, 0, ⟨#[]⟩, true⟩, ⟨3, 0, ⟨#[]⟩, false⟩])) := by
  have HO : Hid (ordV ⟨3, 0, ⟨#[]⟩, true⟩ ⟨3, 0, ⟨#[]⟩, false⟩ = some (1)) := Lib.hid (by simp [ordV, cmpI, rk])
  have HZ1 : Hid (Rz (((w.alloc (.cells #[.int .i64 3, .int .i64 0, .string ⟨#[]⟩, .bool true] 57)).alloc (.cells #[.int .i64 3, .int .i64 0, .string ⟨#[]⟩, .bool false] 57)).alloc (.cells #[.int .i64 0, .int .i64 0, .string ⟨#[]⟩, .bool false] 57)) (w.heap.size + 1 + 1)) := Lib.hid (res3 (Below.refl _ _))
  have HB : Hid (Below w.heap.size w (((w.alloc (.cells #[.int .i64 3, .int .i64 0, .string ⟨#[]⟩, .bool true] 57)).alloc (.cells #[.int .i64 3, .int .i64 0, .string ⟨#[]⟩, .bool false] 57)).alloc (.cells #[.int .i64 0, .int .i64 0, .string ⟨#[]⟩, .bool false] 57))) := Lib.hid below3
  have HCS : Hid (o = 7 ∨ o = 8 ∨ o = 9 ∨ o = 10 ∨ o = 11 ∨ o = 12) := Lib.hid (by omega)
  have t4 : (o == 4) = false := by simp; omega
  have t5 : (o == 5) = false := by simp; omega
  have t6 : (o == 6) = false := by simp; omega
  have t14 : (o == 14) = false := by simp; omega
  have t15 : (o == 15) = false := by simp; omega
  clear h1 h2
  go_enter Try.func96, Try.ntmps96
  go_upto_region 15 with fail
  clear t4 t5 t6 t14 t15
  generalize hW : (((w.alloc (.cells #[.int .i64 3, .int .i64 0, .string ⟨#[]⟩, .bool true] 57)).alloc (.cells #[.int .i64 3, .int .i64 0, .string ⟨#[]⟩, .bool false] 57)).alloc (.cells #[.int .i64 0, .int .i64 0, .string ⟨#[]⟩, .bool false] 57)) = W at HZ1 HB ⊢
  clear hW
  obtain ⟨hlt1, p10, p11, p12, p13, f10, f11, f12, f13⟩ := HZ1.out.facts
  rcases HCS.out with rfl | rfl | rfl | rfl | rfl | rfl
  · go_wp2
    obtain ⟨k0, k1, k2, k3⟩ := four (put4 HZ1.out (.int .i64 3) (.int .i64 0) (.string ⟨#[]⟩) (.bool false))
    exact bodyPost_ret (v := .tuple #[.agg #[.int .i64 3, .int .i64 0, .string ⟨#[]⟩, .bool false], .bool true]) (by simp [results, Try.results96, go_sem, k0, k1, k2, k3]; try rfl) rfl (cmp_postR (by decide) (by decide) HO.out (by decide) (by first | exact below4 HB.out (w.heap.size + 1 + 1) (by omega) _ _ _ _ | exact (below4 HB.out (w.heap.size + 1 + 1) (by omega) _ _ _ _).drew))
  · go_wp2
    obtain ⟨k0, k1, k2, k3⟩ := four (put4 HZ1.out (.int .i64 3) (.int .i64 0) (.string ⟨#[]⟩) (.bool true))
    exact bodyPost_ret (v := .tuple #[.agg #[.int .i64 3, .int .i64 0, .string ⟨#[]⟩, .bool true], .bool true]) (by simp [results, Try.results96, go_sem, k0, k1, k2, k3]; try rfl) rfl (cmp_postR (by decide) (by decide) HO.out (by decide) (by first | exact below4 HB.out (w.heap.size + 1 + 1) (by omega) _ _ _ _ | exact (below4 HB.out (w.heap.size + 1 + 1) (by omega) _ _ _ _).drew))
  · go_wp2
    obtain ⟨k0, k1, k2, k3⟩ := four (put4 HZ1.out (.int .i64 3) (.int .i64 0) (.string ⟨#[]⟩) (.bool false))
    exact bodyPost_ret (v := .tuple #[.agg #[.int .i64 3, .int .i64 0, .string ⟨#[]⟩, .bool false], .bool true]) (by simp [results, Try.results96, go_sem, k0, k1, k2, k3]; try rfl) rfl (cmp_postR (by decide) (by decide) HO.out (by decide) (by first | exact below4 HB.out (w.heap.size + 1 + 1) (by omega) _ _ _ _ | exact (below4 HB.out (w.heap.size + 1 + 1) (by omega) _ _ _ _).drew))
  · go_wp2
    obtain ⟨k0, k1, k2, k3⟩ := four (put4 HZ1.out (.int .i64 3) (.int .i64 0) (.string ⟨#[]⟩) (.bool false))
    exact bodyPost_ret (v := .tuple #[.agg #[.int .i64 3, .int .i64 0, .string ⟨#[]⟩, .bool false], .bool true]) (by simp [results, Try.results96, go_sem, k0, k1, k2, k3]; try rfl) rfl (cmp_postR (by decide) (by decide) HO.out (by decide) (by first | exact below4 HB.out (w.heap.size + 1 + 1) (by omega) _ _ _ _ | exact (below4 HB.out (w.heap.size + 1 + 1) (by omega) _ _ _ _).drew))
  · go_wp2
    obtain ⟨k0, k1, k2, k3⟩ := four (put4 HZ1.out (.int .i64 3) (.int .i64 0) (.string ⟨#[]⟩) (.bool true))
    exact bodyPost_ret (v := .tuple #[.agg #[.int .i64 3, .int .i64 0, .string ⟨#[]⟩, .bool true], .bool true]) (by simp [results, Try.results96, go_sem, k0, k1, k2, k3]; try rfl) rfl (cmp_postR (by decide) (by decide) HO.out (by decide) (by first | exact below4 HB.out (w.heap.size + 1 + 1) (by omega) _ _ _ _ | exact (below4 HB.out (w.heap.size + 1 + 1) (by omega) _ _ _ _).drew))
  · go_wp2
    obtain ⟨k0, k1, k2, k3⟩ := four (put4 HZ1.out (.int .i64 3) (.int .i64 0) (.string ⟨#[]⟩) (.bool true))
    exact bodyPost_ret (v := .tuple #[.agg #[.int .i64 3, .int .i64 0, .string ⟨#[]⟩, .bool true], .bool true]) (by simp [results, Try.results96, go_sem, k0, k1, k2, k3]; try rfl) rfl (cmp_postR (by decide) (by decide) HO.out (by decide) (by first | exact below4 HB.out (w.heap.size + 1 + 1) (by omega) _ _ _ _ | exact (below4 HB.out (w.heap.size + 1 + 1) (by omega) _ _ _ _).drew))
end Go.Proofs.Ytopbildpeojgoaa.Evl
end

section
namespace Go.Proofs.Ytopbildpeojgoaa.Evl
open Go.RowKit Go.Proofs.Ytopbildpeojgoaa Go.Proofs.Ytopbildpeojgoaa.Ev Go.Proofs.Ytopbildpeojgoaa.Sch Go.Proofs.Ytopbildpeojgoaa.Ty Go.Proofs.Ytopbildpeojgoaa.Num
set_option linter.unusedVariables false
set_option maxRecDepth 100000
theorem cmp_postS {o : Int} {a b : VV} {r : Int} {bv : Bool} {w X : World} (h1 : 7 ≤ o) (h2 : o ≤ 12) (hr : ordV a b = some r) (hb : standM o r = bv) (hX : Below w.heap.size w X) : BPost w (opM o [a, b]) (.returned (.tuple #[.agg #[.int .i64 3, .int .i64 0, .string ⟨#[]⟩, .bool bv], .bool true])) X := by
  have e : opM o [a, b] = some (trV (standM o r)) := by
    simp only [opM]
    rw [if_neg (by omega), if_neg (by omega), hr]
    rfl
  rw [e, hb]
  exact bpost_yes rfl hX
set_option maxHeartbeats 4000000 in
theorem both_c3ft (o : Int) (h1 : 7 ≤ o) (h2 : o ≤ 12)  (w : World) : Calls Try.prog 96 #[.int .i64 o, .agg #[.int .i64 3, .int .i64 0, .string ⟨#[]⟩, .bool false], .agg #[.int .i64 3, .int .i64 0, .string ⟨#[]⟩, .bool true]] w (BPost w (opM o [⟨3, 0, ⟨#[]⟩, false⟩, ⟨3, 0, ⟨#[]⟩, true⟩])) := by
  have HO : Hid (ordV ⟨3, 0, ⟨#[]⟩, false⟩ ⟨3, 0, ⟨#[]⟩, true⟩ = some (-1)) := Lib.hid (by simp [ordV, cmpI, rk])
  have HZ1 : Hid (Rz (((w.alloc (.cells #[.int .i64 3, .int .i64 0, .string ⟨#[]⟩, .bool false] 57)).alloc (.cells #[.int .i64 3, .int .i64 0, .string ⟨#[]⟩, .bool true] 57)).alloc (.cells #[.int .i64 0, .int .i64 0, .string ⟨#[]⟩, .bool false] 57)) (w.heap.size + 1 + 1)) := Lib.hid (res3 (Below.refl _ _))
  have HB : Hid (Below w.heap.size w (((w.alloc (.cells #[.int .i64 3, .int .i64 0, .string ⟨#[]⟩, .bool false] 57)).alloc (.cells #[.int .i64 3, .int .i64 0, .string ⟨#[]⟩, .bool true] 57)).alloc (.cells #[.int .i64 0, .int .i64 0, .string ⟨#[]⟩, .bool false] 57))) := Lib.hid below3
  have HCS : Hid (o = 7 ∨ o = 8 ∨ o = 9 ∨ o = 10 ∨ o = 11 ∨ o = 12) := Lib.hid (by omega)
  have t4 : (o == 4) = false := by simp; omega
  have t5 : (o == 5) = false := by simp; omega
  have t6 : (o == 6) = false := by simp; omega
  have t14 : (o == 14) = false := by simp; omega
  have t15 : (o == 15) = false := by simp; omega
  clear h1 h2
  go_enter Try.func96, Try.ntmps96
  go_upto_region 15 with fail
  clear t4 t5 t6 t14 t15
  generalize hW : (((w.alloc (.cells #[.int .i64 3, .int .i64 0, .string ⟨#[]⟩, .bool false] 57)).alloc (.cells #[.int .i64 3, .int .i64 0, .string ⟨#[]⟩, .bool true] 57)).alloc (.cells #[.int .i64 0, .int .i64 0, .string ⟨#[]⟩, .bool false] 57)) = W at HZ1 HB ⊢
  clear hW
  obtain ⟨hlt1, p10, p11, p12, p13, f10, f11, f12, f13⟩ := HZ1.out.facts
  rcases HCS.out with rfl | rfl | rfl | rfl | rfl | rfl
  · go_wp2
    obtain ⟨k0, k1, k2, k3⟩ := four (put4 HZ1.out (.int .i64 3) (.int .i64 0) (.string ⟨#[]⟩) (.bool false))
    exact bodyPost_ret (v := .tuple #[.agg #[.int .i64 3, .int .i64 0, .string ⟨#[]⟩, .bool false], .bool true]) (by simp [results, Try.results96, go_sem, k0, k1, k2, k3]; try rfl) rfl (cmp_postS (by decide) (by decide) HO.out (by decide) (by first | exact below4 HB.out (w.heap.size + 1 + 1) (by omega) _ _ _ _ | exact (below4 HB.out (w.heap.size + 1 + 1) (by omega) _ _ _ _).drew))
  · go_wp2
    obtain ⟨k0, k1, k2, k3⟩ := four (put4 HZ1.out (.int .i64 3) (.int .i64 0) (.string ⟨#[]⟩) (.bool true))
    exact bodyPost_ret (v := .tuple #[.agg #[.int .i64 3, .int .i64 0, .string ⟨#[]⟩, .bool true], .bool true]) (by simp [results, Try.results96, go_sem, k0, k1, k2, k3]; try rfl) rfl (cmp_postS (by decide) (by decide) HO.out (by decide) (by first | exact below4 HB.out (w.heap.size + 1 + 1) (by omega) _ _ _ _ | exact (below4 HB.out (w.heap.size + 1 + 1) (by omega) _ _ _ _).drew))
  · go_wp2
    obtain ⟨k0, k1, k2, k3⟩ := four (put4 HZ1.out (.int .i64 3) (.int .i64 0) (.string ⟨#[]⟩) (.bool true))
    exact bodyPost_ret (v := .tuple #[.agg #[.int .i64 3, .int .i64 0, .string ⟨#[]⟩, .bool true], .bool true]) (by simp [results, Try.results96, go_sem, k0, k1, k2, k3]; try rfl) rfl (cmp_postS (by decide) (by decide) HO.out (by decide) (by first | exact below4 HB.out (w.heap.size + 1 + 1) (by omega) _ _ _ _ | exact (below4 HB.out (w.heap.size + 1 + 1) (by omega) _ _ _ _).drew))
  · go_wp2
    obtain ⟨k0, k1, k2, k3⟩ := four (put4 HZ1.out (.int .i64 3) (.int .i64 0) (.string ⟨#[]⟩) (.bool true))
    exact bodyPost_ret (v := .tuple #[.agg #[.int .i64 3, .int .i64 0, .string ⟨#[]⟩, .bool true], .bool true]) (by simp [results, Try.results96, go_sem, k0, k1, k2, k3]; try rfl) rfl (cmp_postS (by decide) (by decide) HO.out (by decide) (by first | exact below4 HB.out (w.heap.size + 1 + 1) (by omega) _ _ _ _ | exact (below4 HB.out (w.heap.size + 1 + 1) (by omega) _ _ _ _).drew))
  · go_wp2
    obtain ⟨k0, k1, k2, k3⟩ := four (put4 HZ1.out (.int .i64 3) (.int .i64 0) (.string ⟨#[]⟩) (.bool false))
    exact bodyPost_ret (v := .tuple #[.agg #[.int .i64 3, .int .i64 0, .string ⟨#[]⟩, .bool false], .bool true]) (by simp [results, Try.results96, go_sem, k0, k1, k2, k3]; try rfl) rfl (cmp_postS (by decide) (by decide) HO.out (by decide) (by first | exact below4 HB.out (w.heap.size + 1 + 1) (by omega) _ _ _ _ | exact (below4 HB.out (w.heap.size + 1 + 1) (by omega) _ _ _ _).drew))
  · go_wp2
    obtain ⟨k0, k1, k2, k3⟩ := four (put4 HZ1.out (.int .i64 3) (.int .i64 0) (.string ⟨#[]⟩) (.bool false))
    exact bodyPost_ret (v := .tuple #[.agg #[.int .i64 3, .int .i64 0, .string ⟨#[]⟩, .bool false], .bool true]) (by simp [results, Try.results96, go_sem, k0, k1, k2, k3]; try rfl) rfl (cmp_postS (by decide) (by decide) HO.out (by decide) (by first | exact below4 HB.out (w.heap.size + 1 + 1) (by omega) _ _ _ _ | exact (below4 HB.out (w.heap.size + 1 + 1) (by omega) _ _ _ _).drew))
set_option maxHeartbeats 4000000 in
theorem both_c3ff (o : Int) (h1 : 7 ≤ o) (h2 : o ≤ 12)  (w : World) : Calls Try.prog 96 #[.int .i64 o, .agg #[.int .i64 3, .int .i64 0, .string ⟨#[]⟩, .bool false], .agg #[.int .i64 3, .int .i64 0, .string ⟨#[]⟩, .bool false]] w (BPost w (opM o [⟨3, 0, ⟨#[]⟩, false⟩, ⟨3, 0, ⟨#[]⟩, false⟩])) := by
  have HO : Hid (ordV ⟨3, 0, ⟨#[]⟩, false⟩ ⟨3, 0, ⟨#[]⟩, false⟩ = some (0)) := Lib.hid (by simp [ordV, cmpI, rk])
  have HZ1 : Hid (Rz (((w.alloc (.cells #[.int .i64 3, .int .i64 0, .string ⟨#[]⟩, .bool false] 57)).alloc (.cells #[.int .i64 3, .int .i64 0, .string ⟨#[]⟩, .bool false] 57)).alloc (.cells #[.int .i64 0, .int .i64 0, .string ⟨#[]⟩, .bool false] 57)) (w.heap.size + 1 + 1)) := Lib.hid (res3 (Below.refl _ _))
  have HB : Hid (Below w.heap.size w (((w.alloc (.cells #[.int .i64 3, .int .i64 0, .string ⟨#[]⟩, .bool false] 57)).alloc (.cells #[.int .i64 3, .int .i64 0, .string ⟨#[]⟩, .bool false] 57)).alloc (.cells #[.int .i64 0, .int .i64 0, .string ⟨#[]⟩, .bool false] 57))) := Lib.hid below3
  have HCS : Hid (o = 7 ∨ o = 8 ∨ o = 9 ∨ o = 10 ∨ o = 11 ∨ o = 12) := Lib.hid (by omega)
  have t4 : (o == 4) = false := by simp; omega
  have t5 : (o == 5) = false := by simp; omega
  have t6 : (o == 6) = false := by simp; omega
  have t14 : (o == 14) = false := by simp; omega
  have t15 : (o == 15) = false := by simp; omega
  clear h1 h2
  go_enter Try.func96, Try.ntmps96
  go_upto_region 15 with fail
  clear t4 t5 t6 t14 t15
  generalize hW : (((w.alloc (.cells #[.int .i64 3, .int .i64 0, .string ⟨#[]⟩, .bool false] 57)).alloc (.cells #[.int .i64 3, .int .i64 0, .string ⟨#[]⟩, .bool false] 57)).alloc (.cells #[.int .i64 0, .int .i64 0, .string ⟨#[]⟩, .bool false] 57)) = W at HZ1 HB ⊢
  clear hW
  obtain ⟨hlt1, p10, p11, p12, p13, f10, f11, f12, f13⟩ := HZ1.out.facts
  rcases HCS.out with rfl | rfl | rfl | rfl | rfl | rfl
  · go_wp2
    obtain ⟨k0, k1, k2, k3⟩ := four (put4 HZ1.out (.int .i64 3) (.int .i64 0) (.string ⟨#[]⟩) (.bool true))
    exact bodyPost_ret (v := .tuple #[.agg #[.int .i64 3, .int .i64 0, .string ⟨#[]⟩, .bool true], .bool true]) (by simp [results, Try.results96, go_sem, k0, k1, k2, k3]; try rfl) rfl (cmp_postS (by decide) (by decide) HO.out (by decide) (by first | exact below4 HB.out (w.heap.size + 1 + 1) (by omega) _ _ _ _ | exact (below4 HB.out (w.heap.size + 1 + 1) (by omega) _ _ _ _).drew))
  · go_wp2
    obtain ⟨k0, k1, k2, k3⟩ := four (put4 HZ1.out (.int .i64 3) (.int .i64 0) (.string ⟨#[]⟩) (.bool false))
    exact bodyPost_ret (v := .tuple #[.agg #[.int .i64 3, .int .i64 0, .string ⟨#[]⟩, .bool false], .bool true]) (by simp [results, Try.results96, go_sem, k0, k1, k2, k3]; try rfl) rfl (cmp_postS (by decide) (by decide) HO.out (by decide) (by first | exact below4 HB.out (w.heap.size + 1 + 1) (by omega) _ _ _ _ | exact (below4 HB.out (w.heap.size + 1 + 1) (by omega) _ _ _ _).drew))
  · go_wp2
    obtain ⟨k0, k1, k2, k3⟩ := four (put4 HZ1.out (.int .i64 3) (.int .i64 0) (.string ⟨#[]⟩) (.bool false))
    exact bodyPost_ret (v := .tuple #[.agg #[.int .i64 3, .int .i64 0, .string ⟨#[]⟩, .bool false], .bool true]) (by simp [results, Try.results96, go_sem, k0, k1, k2, k3]; try rfl) rfl (cmp_postS (by decide) (by decide) HO.out (by decide) (by first | exact below4 HB.out (w.heap.size + 1 + 1) (by omega) _ _ _ _ | exact (below4 HB.out (w.heap.size + 1 + 1) (by omega) _ _ _ _).drew))
  · go_wp2
    obtain ⟨k0, k1, k2, k3⟩ := four (put4 HZ1.out (.int .i64 3) (.int .i64 0) (.string ⟨#[]⟩) (.bool true))
    exact bodyPost_ret (v := .tuple #[.agg #[.int .i64 3, .int .i64 0, .string ⟨#[]⟩, .bool true], .bool true]) (by simp [results, Try.results96, go_sem, k0, k1, k2, k3]; try rfl) rfl (cmp_postS (by decide) (by decide) HO.out (by decide) (by first | exact below4 HB.out (w.heap.size + 1 + 1) (by omega) _ _ _ _ | exact (below4 HB.out (w.heap.size + 1 + 1) (by omega) _ _ _ _).drew))
  · go_wp2
    obtain ⟨k0, k1, k2, k3⟩ := four (put4 HZ1.out (.int .i64 3) (.int .i64 0) (.string ⟨#[]⟩) (.bool false))
    exact bodyPost_ret (v := .tuple #[.agg #[.int .i64 3, .int .i64 0, .string ⟨#[]⟩, .bool false], .bool true]) (by simp [results, Try.results96, go_sem, k0, k1, k2, k3]; try rfl) rfl (cmp_postS (by decide) (by decide) HO.out (by decide) (by first | exact below4 HB.out (w.heap.size + 1 + 1) (by omega) _ _ _ _ | exact (below4 HB.out (w.heap.size + 1 + 1) (by omega) _ _ _ _).drew))
  · go_wp2
    obtain ⟨k0, k1, k2, k3⟩ := four (put4 HZ1.out (.int .i64 3) (.int .i64 0) (.string ⟨#[]⟩) (.bool true))
    exact bodyPost_ret (v := .tuple #[.agg #[.int .i64 3, .int .i64 0, .string ⟨#[]⟩, .bool true], .bool true]) (by simp [results, Try.results96, go_sem, k0, k1, k2, k3]; try rfl) rfl (cmp_postS (by decide) (by decide) HO.out (by decide) (by first | exact below4 HB.out (w.heap.size + 1 + 1) (by omega) _ _ _ _ | exact (below4 HB.out (w.heap.size + 1 + 1) (by omega) _ _ _ _).drew))
end Go.Proofs.Ytopbildpeojgoaa.Evl
end
