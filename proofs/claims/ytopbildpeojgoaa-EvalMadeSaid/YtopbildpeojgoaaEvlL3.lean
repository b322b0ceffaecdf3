/- Texts put together: EvlL, EvlL2, EvlL3. -/
import Derived.Test.YtopbildpeojgoaaEvlL0
import Derived.Deep.RegionHeld3
section
namespace Go.Proofs.Ytopbildpeojgoaa.Evl
open Go.RowKit Go.Proofs.Ytopbildpeojgoaa Go.Proofs.Ytopbildpeojgoaa.Ev Go.Proofs.Ytopbildpeojgoaa.Sch Go.Proofs.Ytopbildpeojgoaa.Ty Go.Proofs.Ytopbildpeojgoaa.Num
set_option linter.unusedVariables false
set_option maxRecDepth 100000
set_option maxHeartbeats 8000000 in
theorem both_add (x y : Int) (hx : In64 x) (hy : In64 y) (w : World) : Calls Try.prog 96 #[.int .i64 4, .agg #[.int .i64 1, .int .i64 x, .string ⟨#[]⟩, .bool false], .agg #[.int .i64 1, .int .i64 y, .string ⟨#[]⟩, .bool false]] w (BPost w (opM 4 [⟨1, x, ⟨#[]⟩, false⟩, ⟨1, y, ⟨#[]⟩, false⟩])) := by
  have HZ1 : Hid (Rz (((w.alloc (.cells #[.int .i64 1, .int .i64 x, .string ⟨#[]⟩, .bool false] 57)).alloc (.cells #[.int .i64 1, .int .i64 y, .string ⟨#[]⟩, .bool false] 57)).alloc (.cells #[.int .i64 0, .int .i64 0, .string ⟨#[]⟩, .bool false] 57)) (w.heap.size + 1 + 1)) := Lib.hid (res3 (Below.refl _ _))
  have HB : Hid (Below w.heap.size w (((w.alloc (.cells #[.int .i64 1, .int .i64 x, .string ⟨#[]⟩, .bool false] 57)).alloc (.cells #[.int .i64 1, .int .i64 y, .string ⟨#[]⟩, .bool false] 57)).alloc (.cells #[.int .i64 0, .int .i64 0, .string ⟨#[]⟩, .bool false] 57))) := Lib.hid below3
  have HRW : Hid (Row (((w.alloc (.cells #[.int .i64 1, .int .i64 x, .string ⟨#[]⟩, .bool false] 57)).alloc (.cells #[.int .i64 1, .int .i64 y, .string ⟨#[]⟩, .bool false] 57)).alloc (.cells #[.int .i64 0, .int .i64 0, .string ⟨#[]⟩, .bool false] 57)) w.heap.size 57 #[.int .i64 1, .int .i64 x, .string ⟨#[]⟩, .bool false] ∧ Row (((w.alloc (.cells #[.int .i64 1, .int .i64 x, .string ⟨#[]⟩, .bool false] 57)).alloc (.cells #[.int .i64 1, .int .i64 y, .string ⟨#[]⟩, .bool false] 57)).alloc (.cells #[.int .i64 0, .int .i64 0, .string ⟨#[]⟩, .bool false] 57)) (w.heap.size + 1) 57 #[.int .i64 1, .int .i64 y, .string ⟨#[]⟩, .bool false]) := Lib.hid rows3
  obtain ⟨r, hr⟩ : ∃ r, inI (x + y) = r := ⟨_, rfl⟩
  have HF := Lib.hid (fun X => fitsA x y hx hy r hr X)
  obtain ⟨R, hR⟩ : ∃ R, opM 4 [⟨1, x, ⟨#[]⟩, false⟩, ⟨1, y, ⟨#[]⟩, false⟩] = R := ⟨_, rfl⟩
  obtain ⟨z, hz⟩ : ∃ z, IntKind.i64.wrap (x + y) = z := ⟨_, rfl⟩
  have HP : Hid (∀ X, Below w.heap.size w X → BPost w R (.returned (.tuple #[.agg #[.int .i64 1, .int .i64 z, .string ⟨#[]⟩, .bool false], .bool r])) X) := Lib.hid (fun X hX => by
    have e : opM 4 [⟨1, x, ⟨#[]⟩, false⟩, ⟨1, y, ⟨#[]⟩, false⟩] = if inI (x + y) = true then some (numV (cutI (x + y))) else none := by simp [opM, ari]
    rw [e, hr] at hR
    cases r with
    | false => exact bpost_no (by rw [← hR]; rfl) hX
    | true =>
      have hin : -9223372036854775808 ≤ x + y ∧ x + y ≤ 9223372036854775807 := by simpa [inI] using hr
      refine bpost_yes ?_ hX
      rw [← hR, if_pos rfl, cutI_yes hin, ← hz, IntKind.wrap_i64]
      have hw : (x + y + 9223372036854775808) % 18446744073709551616 - 9223372036854775808 = x + y := by omega
      rw [hw]
      rfl)
  rw [hR]
  clear hr hx hy hR
  go_enter Try.func96, Try.ntmps96
  go_upto_region 3 with fail
  generalize hW : (((w.alloc (.cells #[.int .i64 1, .int .i64 x, .string ⟨#[]⟩, .bool false] 57)).alloc (.cells #[.int .i64 1, .int .i64 y, .string ⟨#[]⟩, .bool false] 57)).alloc (.cells #[.int .i64 0, .int .i64 0, .string ⟨#[]⟩, .bool false] 57)) = W at HZ1 HB HRW ⊢
  clear hW
  have k0 : W.cell? ⟨w.heap.size, 0, none⟩ = some (.int .i64 1) := (HRW.out.1.cell 0).trans rfl
  have k1 : W.cell? ⟨w.heap.size, 1, none⟩ = some (.int .i64 x) := (HRW.out.1.cell 1).trans rfl
  have j1 : W.cell? ⟨w.heap.size + 1, 1, none⟩ = some (.int .i64 y) := (HRW.out.2.cell 1).trans rfl
  obtain ⟨hlt1, p10, p11, p12, p13, f10, f11, f12, f13⟩ := HZ1.out.facts
  go_region_held3 (fun X => X.cell? ⟨w.heap.size, 0, none⟩ = some (.int .i64 1) ∧ X.cell? ⟨w.heap.size, 1, none⟩ = some (.int .i64 x) ∧ X.cell? ⟨w.heap.size + 1, 1, none⟩ = some (.int .i64 y))
    (first | exact ⟨k0, k1, j1⟩ | exact ⟨four_other (by omega) k0, four_other (by omega) k1, four_other (by omega) j1⟩ | fail)
    ((
     go_at_call 156
     (with_reducible refine (HF.out _).mono ?_)
     rintro e w1 ⟨rfl, rfl⟩))
  clear hz k0 k1 j1
  go_wp2
  obtain ⟨k0, k1, k2, k3⟩ := four (put4 HZ1.out (.int .i64 1) (.int .i64 z) (.string ⟨#[]⟩) (.bool false))
  exact bodyPost_ret (v := .tuple #[.agg #[.int .i64 1, .int .i64 z, .string ⟨#[]⟩, .bool false], .bool r]) (by simp [results, Try.results96, go_sem, k0, k1, k2, k3]; try rfl) rfl (HP.out _ (by first | exact below4 HB.out (w.heap.size + 1 + 1) (by omega) _ _ _ _ | exact (below4 HB.out (w.heap.size + 1 + 1) (by omega) _ _ _ _).drew))
end Go.Proofs.Ytopbildpeojgoaa.Evl
end

section
namespace Go.Proofs.Ytopbildpeojgoaa.Evl
open Go.RowKit Go.Proofs.Ytopbildpeojgoaa Go.Proofs.Ytopbildpeojgoaa.Ev Go.Proofs.Ytopbildpeojgoaa.Sch Go.Proofs.Ytopbildpeojgoaa.Ty Go.Proofs.Ytopbildpeojgoaa.Num
set_option linter.unusedVariables false
set_option maxRecDepth 100000
set_option maxHeartbeats 8000000 in
theorem both_sub (x y : Int) (hx : In64 x) (hy : In64 y) (w : World) : Calls Try.prog 96 #[.int .i64 5, .agg #[.int .i64 1, .int .i64 x, .string ⟨#[]⟩, .bool false], .agg #[.int .i64 1, .int .i64 y, .string ⟨#[]⟩, .bool false]] w (BPost w (opM 5 [⟨1, x, ⟨#[]⟩, false⟩, ⟨1, y, ⟨#[]⟩, false⟩])) := by
  have HZ1 : Hid (Rz (((w.alloc (.cells #[.int .i64 1, .int .i64 x, .string ⟨#[]⟩, .bool false] 57)).alloc (.cells #[.int .i64 1, .int .i64 y, .string ⟨#[]⟩, .bool false] 57)).alloc (.cells #[.int .i64 0, .int .i64 0, .string ⟨#[]⟩, .bool false] 57)) (w.heap.size + 1 + 1)) := Lib.hid (res3 (Below.refl _ _))
  have HB : Hid (Below w.heap.size w (((w.alloc (.cells #[.int .i64 1, .int .i64 x, .string ⟨#[]⟩, .bool false] 57)).alloc (.cells #[.int .i64 1, .int .i64 y, .string ⟨#[]⟩, .bool false] 57)).alloc (.cells #[.int .i64 0, .int .i64 0, .string ⟨#[]⟩, .bool false] 57))) := Lib.hid below3
  have HRW : Hid (Row (((w.alloc (.cells #[.int .i64 1, .int .i64 x, .string ⟨#[]⟩, .bool false] 57)).alloc (.cells #[.int .i64 1, .int .i64 y, .string ⟨#[]⟩, .bool false] 57)).alloc (.cells #[.int .i64 0, .int .i64 0, .string ⟨#[]⟩, .bool false] 57)) w.heap.size 57 #[.int .i64 1, .int .i64 x, .string ⟨#[]⟩, .bool false] ∧ Row (((w.alloc (.cells #[.int .i64 1, .int .i64 x, .string ⟨#[]⟩, .bool false] 57)).alloc (.cells #[.int .i64 1, .int .i64 y, .string ⟨#[]⟩, .bool false] 57)).alloc (.cells #[.int .i64 0, .int .i64 0, .string ⟨#[]⟩, .bool false] 57)) (w.heap.size + 1) 57 #[.int .i64 1, .int .i64 y, .string ⟨#[]⟩, .bool false]) := Lib.hid rows3
  obtain ⟨r, hr⟩ : ∃ r, inI (x - y) = r := ⟨_, rfl⟩
  have HF := Lib.hid (fun X => fitsS x y hx hy r hr X)
  obtain ⟨R, hR⟩ : ∃ R, opM 5 [⟨1, x, ⟨#[]⟩, false⟩, ⟨1, y, ⟨#[]⟩, false⟩] = R := ⟨_, rfl⟩
  obtain ⟨z, hz⟩ : ∃ z, IntKind.i64.wrap (x - y) = z := ⟨_, rfl⟩
  have HP : Hid (∀ X, Below w.heap.size w X → BPost w R (.returned (.tuple #[.agg #[.int .i64 1, .int .i64 z, .string ⟨#[]⟩, .bool false], .bool r])) X) := Lib.hid (fun X hX => by
    have e : opM 5 [⟨1, x, ⟨#[]⟩, false⟩, ⟨1, y, ⟨#[]⟩, false⟩] = if inI (x - y) = true then some (numV (cutI (x - y))) else none := by simp [opM, ari]
    rw [e, hr] at hR
    cases r with
    | false => exact bpost_no (by rw [← hR]; rfl) hX
    | true =>
      have hin : -9223372036854775808 ≤ x - y ∧ x - y ≤ 9223372036854775807 := by simpa [inI] using hr
      refine bpost_yes ?_ hX
      rw [← hR, if_pos rfl, cutI_yes hin, ← hz, IntKind.wrap_i64]
      have hw : (x - y + 9223372036854775808) % 18446744073709551616 - 9223372036854775808 = x - y := by omega
      rw [hw]
      rfl)
  rw [hR]
  clear hr hx hy hR
  go_enter Try.func96, Try.ntmps96
  go_upto_region 5 with fail
  generalize hW : (((w.alloc (.cells #[.int .i64 1, .int .i64 x, .string ⟨#[]⟩, .bool false] 57)).alloc (.cells #[.int .i64 1, .int .i64 y, .string ⟨#[]⟩, .bool false] 57)).alloc (.cells #[.int .i64 0, .int .i64 0, .string ⟨#[]⟩, .bool false] 57)) = W at HZ1 HB HRW ⊢
  clear hW
  have k0 : W.cell? ⟨w.heap.size, 0, none⟩ = some (.int .i64 1) := (HRW.out.1.cell 0).trans rfl
  have k1 : W.cell? ⟨w.heap.size, 1, none⟩ = some (.int .i64 x) := (HRW.out.1.cell 1).trans rfl
  have j1 : W.cell? ⟨w.heap.size + 1, 1, none⟩ = some (.int .i64 y) := (HRW.out.2.cell 1).trans rfl
  obtain ⟨hlt1, p10, p11, p12, p13, f10, f11, f12, f13⟩ := HZ1.out.facts
  go_region_held3 (fun X => X.cell? ⟨w.heap.size, 0, none⟩ = some (.int .i64 1) ∧ X.cell? ⟨w.heap.size, 1, none⟩ = some (.int .i64 x) ∧ X.cell? ⟨w.heap.size + 1, 1, none⟩ = some (.int .i64 y))
    (first | exact ⟨k0, k1, j1⟩ | exact ⟨four_other (by omega) k0, four_other (by omega) k1, four_other (by omega) j1⟩ | fail)
    ((
     go_at_call 156
     (with_reducible refine (HF.out _).mono ?_)
     rintro e w1 ⟨rfl, rfl⟩))
  clear hz k0 k1 j1
  go_wp2
  obtain ⟨k0, k1, k2, k3⟩ := four (put4 HZ1.out (.int .i64 1) (.int .i64 z) (.string ⟨#[]⟩) (.bool false))
  exact bodyPost_ret (v := .tuple #[.agg #[.int .i64 1, .int .i64 z, .string ⟨#[]⟩, .bool false], .bool r]) (by simp [results, Try.results96, go_sem, k0, k1, k2, k3]; try rfl) rfl (HP.out _ (by first | exact below4 HB.out (w.heap.size + 1 + 1) (by omega) _ _ _ _ | exact (below4 HB.out (w.heap.size + 1 + 1) (by omega) _ _ _ _).drew))
end Go.Proofs.Ytopbildpeojgoaa.Evl
end

section
namespace Go.Proofs.Ytopbildpeojgoaa.Evl
open Go.RowKit Go.Proofs.Ytopbildpeojgoaa Go.Proofs.Ytopbildpeojgoaa.Ev Go.Proofs.Ytopbildpeojgoaa.Sch Go.Proofs.Ytopbildpeojgoaa.Ty Go.Proofs.Ytopbildpeojgoaa.Num
set_option linter.unusedVariables false
set_option maxRecDepth 100000
set_option maxHeartbeats 8000000 in
theorem both_mul (x y : Int) (hx : In64 x) (hy : In64 y) (w : World) : Calls Try.prog 96 #[.int .i64 6, .agg #[.int .i64 1, .int .i64 x, .string ⟨#[]⟩, .bool false], .agg #[.int .i64 1, .int .i64 y, .string ⟨#[]⟩, .bool false]] w (BPost w (opM 6 [⟨1, x, ⟨#[]⟩, false⟩, ⟨1, y, ⟨#[]⟩, false⟩])) := by
  have HZ1 : Hid (Rz (((w.alloc (.cells #[.int .i64 1, .int .i64 x, .string ⟨#[]⟩, .bool false] 57)).alloc (.cells #[.int .i64 1, .int .i64 y, .string ⟨#[]⟩, .bool false] 57)).alloc (.cells #[.int .i64 0, .int .i64 0, .string ⟨#[]⟩, .bool false] 57)) (w.heap.size + 1 + 1)) := Lib.hid (res3 (Below.refl _ _))
  have HB : Hid (Below w.heap.size w (((w.alloc (.cells #[.int .i64 1, .int .i64 x, .string ⟨#[]⟩, .bool false] 57)).alloc (.cells #[.int .i64 1, .int .i64 y, .string ⟨#[]⟩, .bool false] 57)).alloc (.cells #[.int .i64 0, .int .i64 0, .string ⟨#[]⟩, .bool false] 57))) := Lib.hid below3
  have HRW : Hid (Row (((w.alloc (.cells #[.int .i64 1, .int .i64 x, .string ⟨#[]⟩, .bool false] 57)).alloc (.cells #[.int .i64 1, .int .i64 y, .string ⟨#[]⟩, .bool false] 57)).alloc (.cells #[.int .i64 0, .int .i64 0, .string ⟨#[]⟩, .bool false] 57)) w.heap.size 57 #[.int .i64 1, .int .i64 x, .string ⟨#[]⟩, .bool false] ∧ Row (((w.alloc (.cells #[.int .i64 1, .int .i64 x, .string ⟨#[]⟩, .bool false] 57)).alloc (.cells #[.int .i64 1, .int .i64 y, .string ⟨#[]⟩, .bool false] 57)).alloc (.cells #[.int .i64 0, .int .i64 0, .string ⟨#[]⟩, .bool false] 57)) (w.heap.size + 1) 57 #[.int .i64 1, .int .i64 y, .string ⟨#[]⟩, .bool false]) := Lib.hid rows3
  obtain ⟨r, hr⟩ : ∃ r, inI (x * y) = r := ⟨_, rfl⟩
  have HF := Lib.hid (fun X => prodP x y hx hy r hr X)
  obtain ⟨R, hR⟩ : ∃ R, opM 6 [⟨1, x, ⟨#[]⟩, false⟩, ⟨1, y, ⟨#[]⟩, false⟩] = R := ⟨_, rfl⟩
  obtain ⟨z, hz⟩ : ∃ z, IntKind.i64.wrap (x * y) = z := ⟨_, rfl⟩
  have HP : Hid (∀ X, Below w.heap.size w X → BPost w R (.returned (.tuple #[.agg #[.int .i64 1, .int .i64 z, .string ⟨#[]⟩, .bool false], .bool r])) X) := Lib.hid (fun X hX => by
    have e : opM 6 [⟨1, x, ⟨#[]⟩, false⟩, ⟨1, y, ⟨#[]⟩, false⟩] = if inI (x * y) = true then some (numV (cutI (x * y))) else none := by simp [opM, ari]
    rw [e, hr] at hR
    cases r with
    | false => exact bpost_no (by rw [← hR]; rfl) hX
    | true =>
      have hin : -9223372036854775808 ≤ x * y ∧ x * y ≤ 9223372036854775807 := by simpa [inI] using hr
      refine bpost_yes ?_ hX
      rw [← hR, if_pos rfl, cutI_yes hin, ← hz, IntKind.wrap_i64]
      have hw : (x * y + 9223372036854775808) % 18446744073709551616 - 9223372036854775808 = x * y := by omega
      rw [hw]
      rfl)
  rw [hR]
  clear hr hx hy hR
  go_enter Try.func96, Try.ntmps96
  go_upto_region 7 with fail
  generalize hW : (((w.alloc (.cells #[.int .i64 1, .int .i64 x, .string ⟨#[]⟩, .bool false] 57)).alloc (.cells #[.int .i64 1, .int .i64 y, .string ⟨#[]⟩, .bool false] 57)).alloc (.cells #[.int .i64 0, .int .i64 0, .string ⟨#[]⟩, .bool false] 57)) = W at HZ1 HB HRW ⊢
  clear hW
  have k0 : W.cell? ⟨w.heap.size, 0, none⟩ = some (.int .i64 1) := (HRW.out.1.cell 0).trans rfl
  have k1 : W.cell? ⟨w.heap.size, 1, none⟩ = some (.int .i64 x) := (HRW.out.1.cell 1).trans rfl
  have j1 : W.cell? ⟨w.heap.size + 1, 1, none⟩ = some (.int .i64 y) := (HRW.out.2.cell 1).trans rfl
  obtain ⟨hlt1, p10, p11, p12, p13, f10, f11, f12, f13⟩ := HZ1.out.facts
  go_region_held3 (fun X => X.cell? ⟨w.heap.size, 0, none⟩ = some (.int .i64 1) ∧ X.cell? ⟨w.heap.size, 1, none⟩ = some (.int .i64 x) ∧ X.cell? ⟨w.heap.size + 1, 1, none⟩ = some (.int .i64 y))
    (first | exact ⟨k0, k1, j1⟩ | exact ⟨four_other (by omega) k0, four_other (by omega) k1, four_other (by omega) j1⟩ | fail)
    ((
     go_at_call 157
     (with_reducible refine (HF.out _).mono ?_)
     rintro e w1 ⟨rfl, rfl⟩))
  clear hz k0 k1 j1
  go_wp2
  obtain ⟨k0, k1, k2, k3⟩ := four (put4 HZ1.out (.int .i64 1) (.int .i64 z) (.string ⟨#[]⟩) (.bool false))
  exact bodyPost_ret (v := .tuple #[.agg #[.int .i64 1, .int .i64 z, .string ⟨#[]⟩, .bool false], .bool r]) (by simp [results, Try.results96, go_sem, k0, k1, k2, k3]; try rfl) rfl (HP.out _ (by first | exact below4 HB.out (w.heap.size + 1 + 1) (by omega) _ _ _ _ | exact (below4 HB.out (w.heap.size + 1 + 1) (by omega) _ _ _ _).drew))
end Go.Proofs.Ytopbildpeojgoaa.Evl
end
