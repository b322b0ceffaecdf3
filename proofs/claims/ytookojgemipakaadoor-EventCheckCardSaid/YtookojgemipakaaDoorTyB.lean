/- Values that may be; parts that have what they need. -/
import Derived.Test.YtookojgemipakaaDoorTyA
import Derived.Deep.RegionHeld3
namespace Go.Proofs.YtookojgemipakaaDoor.Ty
open Go.RowKit Go.Proofs.YtookojgemipakaaDoor Go.Proofs.YtookojgemipakaaDoor.Sch
set_option linter.unusedVariables false
set_option maxRecDepth 100000
theorem v4_box (w : World) (k i : Int) (s : ByteArray) (b : Bool) {X : World} (h : Below (w.heap.size + 1) (w.alloc (.cells #[.int .i64 k, .int .i64 i, .string s, .bool b] 33)) X) : X.cell? ⟨w.heap.size, 0, none⟩ = some (.int .i64 k) ∧ X.cell? ⟨w.heap.size, 1, none⟩ = some (.int .i64 i) ∧ X.cell? ⟨w.heap.size, 2, none⟩ = some (.string s) ∧ X.cell? ⟨w.heap.size, 3, none⟩ = some (.bool b) := by
  have hr : Row X w.heap.size 33 #[.int .i64 k, .int .i64 i, .string s, .bool b] := Row.below (Row.made w _ _) h (by omega)
  exact ⟨hr.cell 0, hr.cell 1, hr.cell 2, hr.cell 3⟩
set_option maxHeartbeats 1000000 in
theorem may_1 (i : Int) (w : World) : Calls Tryd.prog 64 #[.agg #[.int .i64 1, .int .i64 i, .string ⟨#[]⟩, .bool false]] w fun e w' => e = .returned (.bool true) ∧ Below w.heap.size w w' := by
  have hS : ∀ X, Below (w.heap.size + 1) (w.alloc (.cells #[.int .i64 1, .int .i64 i, .string ⟨#[]⟩, .bool false] 33)) X → X.cell? ⟨w.heap.size, 0, none⟩ = some (.int .i64 1) ∧ X.cell? ⟨w.heap.size, 1, none⟩ = some (.int .i64 i) ∧ X.cell? ⟨w.heap.size, 2, none⟩ = some (.string ⟨#[]⟩) ∧ X.cell? ⟨w.heap.size, 3, none⟩ = some (.bool false) := fun X h => v4_box w 1 i ⟨#[]⟩ false h
  have k1 := hS _ (Below.refl _ _)
  have HS := Lib.hid hS
  have HZ : Hid (w.heap.size + 1 = (w.alloc (.cells #[.int .i64 1, .int .i64 i, .string ⟨#[]⟩, .bool false] 33)).heap.size) := by show w.heap.size + 1 = _; simp
  have HW : Hid (Below w.heap.size w (w.alloc (.cells #[.int .i64 1, .int .i64 i, .string ⟨#[]⟩, .bool false] 33))) := (Below.refl _ w).alloc (Nat.le_refl _) _
  clear hS
  go_enter Tryd.func64, Tryd.ntmps64
  go_wp2
  generalize w.alloc (.cells #[.int .i64 1, .int .i64 i, .string ⟨#[]⟩, .bool false] 33) = W at HS k1 HW HZ ⊢
  have HB : Hid (Below W.heap.size W W.drew) := (Below.refl _ W).drew
  go_region_held3 (fun X => X.cell? ⟨w.heap.size, 0, none⟩ = some (.int .i64 1) ∧ X.cell? ⟨w.heap.size, 1, none⟩ = some (.int .i64 i) ∧ X.cell? ⟨w.heap.size, 2, none⟩ = some (.string ⟨#[]⟩) ∧ X.cell? ⟨w.heap.size, 3, none⟩ = some (.bool false))
    (first
      | exact k1
      | exact HS.out _ (HB.out.mono (by rw [← HZ.out]; exact Nat.le_refl _))
      | fail)
    ((
          go_at_call 84
          (with_reducible refine (vnum_any _ _).mono ?_)
          rintro e w3 ⟨rfl, hb⟩
          have h3 := HB.out.trans (hb.mono HB.out.size)
          have HB := Lib.hid h3
          clear hb h3))
  have HF := Lib.hid (HW.out.trans (HB.out.mono (by rw [← HZ.out]; omega)))
  clear k1 HS HB HW
  go_wp2
  go_ret
  exact ⟨rfl, HF.out⟩
set_option maxHeartbeats 1000000 in
theorem may_2 (s : ByteArray) (hs : s.size ≤ 64) (w : World) : Calls Tryd.prog 64 #[.agg #[.int .i64 2, .int .i64 0, .string s, .bool false]] w fun e w' => e = .returned (.bool true) ∧ Below w.heap.size w w' := by
  have hS : ∀ X, Below (w.heap.size + 1) (w.alloc (.cells #[.int .i64 2, .int .i64 0, .string s, .bool false] 33)) X → X.cell? ⟨w.heap.size, 0, none⟩ = some (.int .i64 2) ∧ X.cell? ⟨w.heap.size, 1, none⟩ = some (.int .i64 0) ∧ X.cell? ⟨w.heap.size, 2, none⟩ = some (.string s) ∧ X.cell? ⟨w.heap.size, 3, none⟩ = some (.bool false) := fun X h => v4_box w 2 0 s false h
  have k1 := hS _ (Below.refl _ _)
  have hd64 : decide ((s.size : Int) ≤ 64) = true := decide_eq_true (by omega)
  have HS := Lib.hid hS
  have HZ : Hid (w.heap.size + 1 = (w.alloc (.cells #[.int .i64 2, .int .i64 0, .string s, .bool false] 33)).heap.size) := by show w.heap.size + 1 = _; simp
  have HW : Hid (Below w.heap.size w (w.alloc (.cells #[.int .i64 2, .int .i64 0, .string s, .bool false] 33))) := (Below.refl _ w).alloc (Nat.le_refl _) _
  clear hS
  go_enter Tryd.func64, Tryd.ntmps64
  go_wp2
  generalize w.alloc (.cells #[.int .i64 2, .int .i64 0, .string s, .bool false] 33) = W at HS k1 HW HZ ⊢
  have HB : Hid (Below W.heap.size W W.drew) := (Below.refl _ W).drew
  go_region_held3 (fun X => X.cell? ⟨w.heap.size, 0, none⟩ = some (.int .i64 2) ∧ X.cell? ⟨w.heap.size, 1, none⟩ = some (.int .i64 0) ∧ X.cell? ⟨w.heap.size, 2, none⟩ = some (.string s) ∧ X.cell? ⟨w.heap.size, 3, none⟩ = some (.bool false))
    (first
      | exact k1
      | exact HS.out _ (HB.out.mono (by rw [← HZ.out]; exact Nat.le_refl _))
      | fail)
    ((
          go_at_call 85
          (with_reducible refine (vtext_any _ _).mono ?_)
          rintro e w3 ⟨rfl, hb⟩
          have h3 := HB.out.trans (hb.mono HB.out.size)
          have HB := Lib.hid h3
          clear hb h3))
  have HF := Lib.hid (HW.out.trans (HB.out.mono (by rw [← HZ.out]; omega)))
  clear k1 HS HB HW
  go_wp2
  go_ret
  exact ⟨rfl, HF.out⟩
set_option maxHeartbeats 1000000 in
theorem may_3 (b : Bool) (w : World) : Calls Tryd.prog 64 #[.agg #[.int .i64 3, .int .i64 0, .string ⟨#[]⟩, .bool b]] w fun e w' => e = .returned (.bool true) ∧ Below w.heap.size w w' := by
  have hS : ∀ X, Below (w.heap.size + 1) (w.alloc (.cells #[.int .i64 3, .int .i64 0, .string ⟨#[]⟩, .bool b] 33)) X → X.cell? ⟨w.heap.size, 0, none⟩ = some (.int .i64 3) ∧ X.cell? ⟨w.heap.size, 1, none⟩ = some (.int .i64 0) ∧ X.cell? ⟨w.heap.size, 2, none⟩ = some (.string ⟨#[]⟩) ∧ X.cell? ⟨w.heap.size, 3, none⟩ = some (.bool b) := fun X h => v4_box w 3 0 ⟨#[]⟩ b h
  have k1 := hS _ (Below.refl _ _)
  have HS := Lib.hid hS
  have HZ : Hid (w.heap.size + 1 = (w.alloc (.cells #[.int .i64 3, .int .i64 0, .string ⟨#[]⟩, .bool b] 33)).heap.size) := by show w.heap.size + 1 = _; simp
  have HW : Hid (Below w.heap.size w (w.alloc (.cells #[.int .i64 3, .int .i64 0, .string ⟨#[]⟩, .bool b] 33))) := (Below.refl _ w).alloc (Nat.le_refl _) _
  clear hS
  go_enter Tryd.func64, Tryd.ntmps64
  go_wp2
  generalize w.alloc (.cells #[.int .i64 3, .int .i64 0, .string ⟨#[]⟩, .bool b] 33) = W at HS k1 HW HZ ⊢
  have HB : Hid (Below W.heap.size W W.drew) := (Below.refl _ W).drew
  go_region_held3 (fun X => X.cell? ⟨w.heap.size, 0, none⟩ = some (.int .i64 3) ∧ X.cell? ⟨w.heap.size, 1, none⟩ = some (.int .i64 0) ∧ X.cell? ⟨w.heap.size, 2, none⟩ = some (.string ⟨#[]⟩) ∧ X.cell? ⟨w.heap.size, 3, none⟩ = some (.bool b))
    (first
      | exact k1
      | exact HS.out _ (HB.out.mono (by rw [← HZ.out]; exact Nat.le_refl _))
      | fail)
    ((
          go_at_call 86
          (with_reducible refine (vtruth_any _ _).mono ?_)
          rintro e w3 ⟨rfl, hb⟩
          have h3 := HB.out.trans (hb.mono HB.out.size)
          have HB := Lib.hid h3
          clear hb h3))
  have HF := Lib.hid (HW.out.trans (HB.out.mono (by rw [← HZ.out]; omega)))
  clear k1 HS HB HW
  go_wp2
  go_ret
  exact ⟨rfl, HF.out⟩
end Go.Proofs.YtookojgemipakaaDoor.Ty
