/- Constants that may stand in a predicate; parts that have what they need. -/
import Derived.Test.YtookojgemipakaaDoorTyB
namespace Go.Proofs.YtookojgemipakaaDoor.Ty
open Go.RowKit Go.Proofs.YtookojgemipakaaDoor Go.Proofs.YtookojgemipakaaDoor.Sch
set_option linter.unusedVariables false
set_option maxRecDepth 100000
set_option maxHeartbeats 1000000 in
theorem const_1 (i : Int) (hi : (i == -9223372036854775808) = false) (w : World) : Calls Tryd.prog 69 #[.agg #[.int .i64 1, .int .i64 i, .string ⟨#[]⟩, .bool false]] w fun e w' => e = .returned (.bool true) ∧ Below w.heap.size w w' := by
  have hS : ∀ X, Below (w.heap.size + 1) (w.alloc (.cells #[.int .i64 1, .int .i64 i, .string ⟨#[]⟩, .bool false] 33)) X → X.cell? ⟨w.heap.size, 0, none⟩ = some (.int .i64 1) ∧ X.cell? ⟨w.heap.size, 1, none⟩ = some (.int .i64 i) ∧ X.cell? ⟨w.heap.size, 2, none⟩ = some (.string ⟨#[]⟩) ∧ X.cell? ⟨w.heap.size, 3, none⟩ = some (.bool false) := fun X h => v4_box w 1 i ⟨#[]⟩ false h
  have k1 := hS _ (Below.refl _ _)
  have HS := Lib.hid hS
  have HZ : Hid (w.heap.size + 1 = (w.alloc (.cells #[.int .i64 1, .int .i64 i, .string ⟨#[]⟩, .bool false] 33)).heap.size) := by show w.heap.size + 1 = _; simp
  have HW : Hid (Below w.heap.size w (w.alloc (.cells #[.int .i64 1, .int .i64 i, .string ⟨#[]⟩, .bool false] 33))) := (Below.refl _ w).alloc (Nat.le_refl _) _
  clear hS
  go_enter Tryd.func69, Tryd.ntmps69
  go_wp2
  generalize w.alloc (.cells #[.int .i64 1, .int .i64 i, .string ⟨#[]⟩, .bool false] 33) = W at HS k1 HW HZ ⊢
  have HB : Hid (Below W.heap.size W W.drew) := (Below.refl _ W).drew
  go_region_held3 (fun X => X.cell? ⟨w.heap.size, 0, none⟩ = some (.int .i64 1) ∧ X.cell? ⟨w.heap.size, 1, none⟩ = some (.int .i64 i) ∧ X.cell? ⟨w.heap.size, 2, none⟩ = some (.string ⟨#[]⟩) ∧ X.cell? ⟨w.heap.size, 3, none⟩ = some (.bool false))
    (first
      | exact k1
      | exact HS.out _ (HB.out.mono (by rw [← HZ.out]; exact Nat.le_refl _))
      | fail)
    ((first
      | (
          go_at_call 64
          (with_reducible refine (may_1 _ _).mono ?_)
          rintro e w3 ⟨rfl, hb⟩
          have h3 := HB.out.trans (hb.mono HB.out.size)
          have HB := Lib.hid h3
          clear hb h3)
      | (
          go_at_call 84
          (with_reducible refine (vnum_any _ _).mono ?_)
          rintro e w3 ⟨rfl, hb⟩
          have h3 := HB.out.trans (hb.mono HB.out.size)
          have HB := Lib.hid h3
          clear hb h3)))
  have HF := Lib.hid (HW.out.trans (HB.out.mono (by rw [← HZ.out]; omega)))
  clear k1 HS HB HW
  go_wp2
  go_ret
  exact ⟨rfl, HF.out⟩
set_option maxHeartbeats 1000000 in
theorem const_2 (s : ByteArray) (hs : s.size ≤ 64) (w : World) : Calls Tryd.prog 69 #[.agg #[.int .i64 2, .int .i64 0, .string s, .bool false]] w fun e w' => e = .returned (.bool true) ∧ Below w.heap.size w w' := by
  have hS : ∀ X, Below (w.heap.size + 1) (w.alloc (.cells #[.int .i64 2, .int .i64 0, .string s, .bool false] 33)) X → X.cell? ⟨w.heap.size, 0, none⟩ = some (.int .i64 2) ∧ X.cell? ⟨w.heap.size, 1, none⟩ = some (.int .i64 0) ∧ X.cell? ⟨w.heap.size, 2, none⟩ = some (.string s) ∧ X.cell? ⟨w.heap.size, 3, none⟩ = some (.bool false) := fun X h => v4_box w 2 0 s false h
  have k1 := hS _ (Below.refl _ _)
  have HS := Lib.hid hS
  have HZ : Hid (w.heap.size + 1 = (w.alloc (.cells #[.int .i64 2, .int .i64 0, .string s, .bool false] 33)).heap.size) := by show w.heap.size + 1 = _; simp
  have HW : Hid (Below w.heap.size w (w.alloc (.cells #[.int .i64 2, .int .i64 0, .string s, .bool false] 33))) := (Below.refl _ w).alloc (Nat.le_refl _) _
  clear hS
  go_enter Tryd.func69, Tryd.ntmps69
  go_wp2
  generalize w.alloc (.cells #[.int .i64 2, .int .i64 0, .string s, .bool false] 33) = W at HS k1 HW HZ ⊢
  have HB : Hid (Below W.heap.size W W.drew) := (Below.refl _ W).drew
  go_region_held3 (fun X => X.cell? ⟨w.heap.size, 0, none⟩ = some (.int .i64 2) ∧ X.cell? ⟨w.heap.size, 1, none⟩ = some (.int .i64 0) ∧ X.cell? ⟨w.heap.size, 2, none⟩ = some (.string s) ∧ X.cell? ⟨w.heap.size, 3, none⟩ = some (.bool false))
    (first
      | exact k1
      | exact HS.out _ (HB.out.mono (by rw [← HZ.out]; exact Nat.le_refl _))
      | fail)
    ((first
      | (
          go_at_call 64
          (with_reducible refine (may_2 _ hs _).mono ?_)
          rintro e w3 ⟨rfl, hb⟩
          have h3 := HB.out.trans (hb.mono HB.out.size)
          have HB := Lib.hid h3
          clear hb h3)
      | (
          go_at_call 84
          (with_reducible refine (vnum_any _ _).mono ?_)
          rintro e w3 ⟨rfl, hb⟩
          have h3 := HB.out.trans (hb.mono HB.out.size)
          have HB := Lib.hid h3
          clear hb h3)))
  have HF := Lib.hid (HW.out.trans (HB.out.mono (by rw [← HZ.out]; omega)))
  clear k1 HS HB HW
  go_wp2
  go_ret
  exact ⟨rfl, HF.out⟩
set_option maxHeartbeats 1000000 in
theorem const_3 (b : Bool) (w : World) : Calls Tryd.prog 69 #[.agg #[.int .i64 3, .int .i64 0, .string ⟨#[]⟩, .bool b]] w fun e w' => e = .returned (.bool true) ∧ Below w.heap.size w w' := by
  have hS : ∀ X, Below (w.heap.size + 1) (w.alloc (.cells #[.int .i64 3, .int .i64 0, .string ⟨#[]⟩, .bool b] 33)) X → X.cell? ⟨w.heap.size, 0, none⟩ = some (.int .i64 3) ∧ X.cell? ⟨w.heap.size, 1, none⟩ = some (.int .i64 0) ∧ X.cell? ⟨w.heap.size, 2, none⟩ = some (.string ⟨#[]⟩) ∧ X.cell? ⟨w.heap.size, 3, none⟩ = some (.bool b) := fun X h => v4_box w 3 0 ⟨#[]⟩ b h
  have k1 := hS _ (Below.refl _ _)
  have HS := Lib.hid hS
  have HZ : Hid (w.heap.size + 1 = (w.alloc (.cells #[.int .i64 3, .int .i64 0, .string ⟨#[]⟩, .bool b] 33)).heap.size) := by show w.heap.size + 1 = _; simp
  have HW : Hid (Below w.heap.size w (w.alloc (.cells #[.int .i64 3, .int .i64 0, .string ⟨#[]⟩, .bool b] 33))) := (Below.refl _ w).alloc (Nat.le_refl _) _
  clear hS
  go_enter Tryd.func69, Tryd.ntmps69
  go_wp2
  generalize w.alloc (.cells #[.int .i64 3, .int .i64 0, .string ⟨#[]⟩, .bool b] 33) = W at HS k1 HW HZ ⊢
  have HB : Hid (Below W.heap.size W W.drew) := (Below.refl _ W).drew
  go_region_held3 (fun X => X.cell? ⟨w.heap.size, 0, none⟩ = some (.int .i64 3) ∧ X.cell? ⟨w.heap.size, 1, none⟩ = some (.int .i64 0) ∧ X.cell? ⟨w.heap.size, 2, none⟩ = some (.string ⟨#[]⟩) ∧ X.cell? ⟨w.heap.size, 3, none⟩ = some (.bool b))
    (first
      | exact k1
      | exact HS.out _ (HB.out.mono (by rw [← HZ.out]; exact Nat.le_refl _))
      | fail)
    ((first
      | (
          go_at_call 64
          (with_reducible refine (may_3 _ _).mono ?_)
          rintro e w3 ⟨rfl, hb⟩
          have h3 := HB.out.trans (hb.mono HB.out.size)
          have HB := Lib.hid h3
          clear hb h3)
      | (
          go_at_call 84
          (with_reducible refine (vnum_any _ _).mono ?_)
          rintro e w3 ⟨rfl, hb⟩
          have h3 := HB.out.trans (hb.mono HB.out.size)
          have HB := Lib.hid h3
          clear hb h3)))
  have HF := Lib.hid (HW.out.trans (HB.out.mono (by rw [← HZ.out]; omega)))
  clear k1 HS HB HW
  go_wp2
  go_ret
  exact ⟨rfl, HF.out⟩
/-- A constant that may stand in a predicate. -/
inductive OkV : Int → Int → ByteArray → Bool → Prop
  | num (i : Int) (hi : (i == -9223372036854775808) = false) : OkV 1 i ⟨#[]⟩ false
  | text (s : ByteArray) (hs : s.size ≤ 64) : OkV 2 0 s false
  | truth (b : Bool) : OkV 3 0 ⟨#[]⟩ b
theorem const_ok {k i : Int} {s : ByteArray} {b : Bool} (h : OkV k i s b) (w : World) : Calls Tryd.prog 69 #[.agg #[.int .i64 k, .int .i64 i, .string s, .bool b]] w fun e w' => e = .returned (.bool true) ∧ Below w.heap.size w w' := by
  cases h with
  | num i hi => exact const_1 i hi w
  | text s hs => exact const_2 s hs w
  | truth b => exact const_3 b w
theorem own_const {k i : Int} {s : ByteArray} {b : Bool} (h : OkV k i s b) (w : World) : Calls Tryd.prog 45 #[.agg #[.int .i64 1, .int .i64 k, .int .i64 i, .string s, .bool b, .string ⟨#[]⟩, .string ⟨#[]⟩]] w fun e w' => e = .returned (.bool true) ∧ Below w.heap.size w w' := by
  go_enter Tryd.func45, Tryd.ntmps45
  go_wp2_with fail
  refine (const_ok h _).mono ?_
  rintro e w1 ⟨rfl, hb⟩
  have HB := Lib.hid hb
  clear hb
  go_wp2
  go_ret
  exact ⟨rfl, ((Below.refl _ w).alloc (Nat.le_refl _) _).trans (HB.out.mono (by simp))⟩
theorem own_field {v f : ByteArray} (hv : nameB v.data.toList = true) (hf : nameB f.data.toList = true) (w : World) : Calls Tryd.prog 45 #[.agg #[.int .i64 2, .int .i64 0, .int .i64 0, .string ⟨#[]⟩, .bool false, .string v, .string f]] w fun e w' => e = .returned (.bool true) ∧ Below w.heap.size w w' := by
  have HV := Lib.hid hv
  have HF := Lib.hid hf
  clear hv hf
  go_enter Tryd.func45, Tryd.ntmps45
  go_wp2_with fail
  refine (name_is v true _ HV.out).mono ?_
  rintro e w1 ⟨rfl, rfl⟩
  go_wp2_with fail
  refine (name_is f true _ HF.out).mono ?_
  rintro e w1 ⟨rfl, rfl⟩
  go_wp2
  go_ret
  exact ⟨rfl, by go_grown⟩
theorem own_op (op : Int) (h1 : (op == 1) = false) (h2 : (op == 2) = false) (w : World) : Calls Tryd.prog 45 #[.agg #[.int .i64 op, .int .i64 0, .int .i64 0, .string ⟨#[]⟩, .bool false, .string ⟨#[]⟩, .string ⟨#[]⟩]] w fun e w' => e = .returned (.bool true) ∧ Below w.heap.size w w' := by
  go_enter Tryd.func45, Tryd.ntmps45
  go_wp2
  go_ret
  exact ⟨rfl, by go_grown⟩
end Go.Proofs.YtookojgemipakaaDoor.Ty
