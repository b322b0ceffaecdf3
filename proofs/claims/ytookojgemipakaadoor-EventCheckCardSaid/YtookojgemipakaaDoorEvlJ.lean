/- Whether any parts are a predicate: term.May. -/
import Derived.Test.YtookojgemipakaaDoorEvlB
import Derived.Deep.RegionLaw
namespace Go.Proofs.YtookojgemipakaaDoor.Evl
open Go.RowKit Go.Proofs.YtookojgemipakaaDoor Go.Proofs.YtookojgemipakaaDoor.Ev Go.Proofs.YtookojgemipakaaDoor.Sch Go.Proofs.YtookojgemipakaaDoor.Ty
set_option linter.unusedVariables false
set_option maxRecDepth 100000
/-- A truth that is told, and what it means. -/
def QPost (P : Prop) (w : World) (e : Ending) (w' : World) : Prop := ∃ r, e = .returned (.bool r) ∧ (r = true → P) ∧ Below w.heap.size w w'
theorem qpost {P : Prop} {w w' : World} {r : Bool} (h : r = true → P) (hb : Below w.heap.size w w') : QPost P w (.returned (.bool r)) w' := ⟨r, rfl, h, hb⟩
theorem qpost_no {P : Prop} {w w' : World} (hb : Below w.heap.size w w') : QPost P w (.returned (.bool false)) w' := ⟨false, rfl, (by simp), hb⟩
theorem bytes_nil {s : ByteArray} (h : s.toList = []) : s = ⟨#[]⟩ := by
  have h2 : s.data.toList = [] := by
    have e : s.toList = s.data.toList := by simp [ByteArray.toList_eq]
    rw [← e]; exact h
  obtain ⟨d⟩ := s
  simp at h2
  subst h2
  rfl
set_option maxHeartbeats 2000000 in
theorem may_n1 (i : Int) (s : ByteArray) (w : World) : Calls Tryd.prog 64 #[.agg #[.int .i64 1, .int .i64 i, .string s, .bool true]] w fun e w' => e = .returned (.bool false) ∧ Below w.heap.size w w' := by
  have hS : ∀ X, Below (w.heap.size + 1) (w.alloc (.cells #[.int .i64 1, .int .i64 i, .string s, .bool true] 33)) X → X.cell? ⟨w.heap.size, 0, none⟩ = some (.int .i64 1) ∧ X.cell? ⟨w.heap.size, 1, none⟩ = some (.int .i64 i) ∧ X.cell? ⟨w.heap.size, 2, none⟩ = some (.string s) ∧ X.cell? ⟨w.heap.size, 3, none⟩ = some (.bool true) := fun X h => v4_box w (1) (i) s true h
  have k1 := hS _ (Below.refl _ _)
  have HS := Lib.hid hS
  have HZ : Hid (w.heap.size + 1 = (w.alloc (.cells #[.int .i64 1, .int .i64 i, .string s, .bool true] 33)).heap.size) := by show w.heap.size + 1 = _; simp
  have HW : Hid (Below w.heap.size w (w.alloc (.cells #[.int .i64 1, .int .i64 i, .string s, .bool true] 33))) := (Below.refl _ w).alloc (Nat.le_refl _) _
  clear hS
  go_enter Tryd.func64, Tryd.ntmps64
  go_wp2
  generalize (w.alloc (.cells #[.int .i64 1, .int .i64 i, .string s, .bool true] 33)) = W at HS k1 HW HZ ⊢
  have HB : Hid (Below W.heap.size W W.drew) := (Below.refl _ W).drew
  go_region_held3 (fun X => X.cell? ⟨w.heap.size, 0, none⟩ = some (.int .i64 1) ∧ X.cell? ⟨w.heap.size, 1, none⟩ = some (.int .i64 i) ∧ X.cell? ⟨w.heap.size, 2, none⟩ = some (.string s) ∧ X.cell? ⟨w.heap.size, 3, none⟩ = some (.bool true))
    (first
      | exact k1
      | exact HS.out _ (HB.out.mono (by rw [← HZ.out]; exact Nat.le_refl _))
      | fail)
    ((first
      | (
          go_at_call 84
          (with_reducible refine (vnum_any _ _).mono ?_)
          rintro e w3 ⟨rfl, hb⟩
          have h3 := HB.out.trans (hb.mono HB.out.size)
          have HB := Lib.hid h3
          clear hb h3)))
  have HF := Lib.hid (HW.out.trans (HB.out.mono (by rw [← HZ.out]; omega)))
  clear k1 HS HB HW
  go_wp2
  go_ret
  exact ⟨rfl, HF.out⟩
set_option maxHeartbeats 2000000 in
theorem may_n2 (i : Int) (s : ByteArray) (hs : ¬ s.toList = []) (w : World) : Calls Tryd.prog 64 #[.agg #[.int .i64 1, .int .i64 i, .string s, .bool false]] w fun e w' => e = .returned (.bool false) ∧ Below w.heap.size w w' := by
  have hS : ∀ X, Below (w.heap.size + 1) (w.alloc (.cells #[.int .i64 1, .int .i64 i, .string s, .bool false] 33)) X → X.cell? ⟨w.heap.size, 0, none⟩ = some (.int .i64 1) ∧ X.cell? ⟨w.heap.size, 1, none⟩ = some (.int .i64 i) ∧ X.cell? ⟨w.heap.size, 2, none⟩ = some (.string s) ∧ X.cell? ⟨w.heap.size, 3, none⟩ = some (.bool false) := fun X h => v4_box w (1) (i) s false h
  have k1 := hS _ (Below.refl _ _)
  have HS := Lib.hid hS
  have HZ : Hid (w.heap.size + 1 = (w.alloc (.cells #[.int .i64 1, .int .i64 i, .string s, .bool false] 33)).heap.size) := by show w.heap.size + 1 = _; simp
  have HW : Hid (Below w.heap.size w (w.alloc (.cells #[.int .i64 1, .int .i64 i, .string s, .bool false] 33))) := (Below.refl _ w).alloc (Nat.le_refl _) _
  clear hS
  go_enter Tryd.func64, Tryd.ntmps64
  go_wp2
  generalize (w.alloc (.cells #[.int .i64 1, .int .i64 i, .string s, .bool false] 33)) = W at HS k1 HW HZ ⊢
  have HB : Hid (Below W.heap.size W W.drew) := (Below.refl _ W).drew
  go_region_held3 (fun X => X.cell? ⟨w.heap.size, 0, none⟩ = some (.int .i64 1) ∧ X.cell? ⟨w.heap.size, 1, none⟩ = some (.int .i64 i) ∧ X.cell? ⟨w.heap.size, 2, none⟩ = some (.string s) ∧ X.cell? ⟨w.heap.size, 3, none⟩ = some (.bool false))
    (first
      | exact k1
      | exact HS.out _ (HB.out.mono (by rw [← HZ.out]; exact Nat.le_refl _))
      | fail)
    ((first
      | (
          go_at_call 84
          (with_reducible refine (vnum_any _ _).mono ?_)
          rintro e w3 ⟨rfl, hb⟩
          have h3 := HB.out.trans (hb.mono HB.out.size)
          have HB := Lib.hid h3
          clear hb h3)))
  have HF := Lib.hid (HW.out.trans (HB.out.mono (by rw [← HZ.out]; omega)))
  clear k1 HS HB HW
  go_wp2
  go_ret
  exact ⟨rfl, HF.out⟩
set_option maxHeartbeats 2000000 in
theorem may_n3 (i : Int) (s : ByteArray) (w : World) : Calls Tryd.prog 64 #[.agg #[.int .i64 2, .int .i64 i, .string s, .bool true]] w fun e w' => e = .returned (.bool false) ∧ Below w.heap.size w w' := by
  have hS : ∀ X, Below (w.heap.size + 1) (w.alloc (.cells #[.int .i64 2, .int .i64 i, .string s, .bool true] 33)) X → X.cell? ⟨w.heap.size, 0, none⟩ = some (.int .i64 2) ∧ X.cell? ⟨w.heap.size, 1, none⟩ = some (.int .i64 i) ∧ X.cell? ⟨w.heap.size, 2, none⟩ = some (.string s) ∧ X.cell? ⟨w.heap.size, 3, none⟩ = some (.bool true) := fun X h => v4_box w (2) (i) s true h
  obtain ⟨k0, k1, k2, k3⟩ := hS _ (Below.refl _ _)
  have HS := Lib.hid hS
  have HZ : Hid (w.heap.size + 1 = (w.alloc (.cells #[.int .i64 2, .int .i64 i, .string s, .bool true] 33)).heap.size) := by show w.heap.size + 1 = _; simp
  have HW : Hid (Below w.heap.size w (w.alloc (.cells #[.int .i64 2, .int .i64 i, .string s, .bool true] 33))) := (Below.refl _ w).alloc (Nat.le_refl _) _
  clear hS
  go_enter Tryd.func64, Tryd.ntmps64
  go_wp2
  generalize (w.alloc (.cells #[.int .i64 2, .int .i64 i, .string s, .bool true] 33)) = W at HS k0 k1 k2 k3 HW HZ ⊢
  first | go_region_law (
    (go_simp
     go_at_call 85
     refine (vtext_any _ _).mono ?_
     rintro e w3 ⟨rfl, hb⟩
     have h3 := (Below.refl _ W).drew.trans (hb.mono (Nat.le_refl _))
     obtain ⟨j0, j1, j2, j3⟩ := HS.out _ (h3.mono (by show w.heap.size + 1 ≤ W.heap.size; rw [← HZ.out]; exact Nat.le_refl _))
     have HF := Lib.hid (HW.out.trans (h3.mono (by show w.heap.size ≤ W.heap.size; have := HZ.out; omega)))
     clear hb h3)) | fail
  all_goals
    go_wp2
    go_ret
    exact ⟨rfl, HF.out⟩
set_option maxHeartbeats 2000000 in
theorem may_n4 (i : Int) (s : ByteArray) (hi : ¬ i = 0) (w : World) : Calls Tryd.prog 64 #[.agg #[.int .i64 2, .int .i64 i, .string s, .bool false]] w fun e w' => e = .returned (.bool false) ∧ Below w.heap.size w w' := by
  have hS : ∀ X, Below (w.heap.size + 1) (w.alloc (.cells #[.int .i64 2, .int .i64 i, .string s, .bool false] 33)) X → X.cell? ⟨w.heap.size, 0, none⟩ = some (.int .i64 2) ∧ X.cell? ⟨w.heap.size, 1, none⟩ = some (.int .i64 i) ∧ X.cell? ⟨w.heap.size, 2, none⟩ = some (.string s) ∧ X.cell? ⟨w.heap.size, 3, none⟩ = some (.bool false) := fun X h => v4_box w (2) (i) s false h
  obtain ⟨k0, k1, k2, k3⟩ := hS _ (Below.refl _ _)
  have HS := Lib.hid hS
  have HZ : Hid (w.heap.size + 1 = (w.alloc (.cells #[.int .i64 2, .int .i64 i, .string s, .bool false] 33)).heap.size) := by show w.heap.size + 1 = _; simp
  have HW : Hid (Below w.heap.size w (w.alloc (.cells #[.int .i64 2, .int .i64 i, .string s, .bool false] 33))) := (Below.refl _ w).alloc (Nat.le_refl _) _
  clear hS
  go_enter Tryd.func64, Tryd.ntmps64
  go_wp2
  generalize (w.alloc (.cells #[.int .i64 2, .int .i64 i, .string s, .bool false] 33)) = W at HS k0 k1 k2 k3 HW HZ ⊢
  first | go_region_law (
    (go_simp
     go_at_call 85
     refine (vtext_any _ _).mono ?_
     rintro e w3 ⟨rfl, hb⟩
     have h3 := (Below.refl _ W).drew.trans (hb.mono (Nat.le_refl _))
     obtain ⟨j0, j1, j2, j3⟩ := HS.out _ (h3.mono (by show w.heap.size + 1 ≤ W.heap.size; rw [← HZ.out]; exact Nat.le_refl _))
     have HF := Lib.hid (HW.out.trans (h3.mono (by show w.heap.size ≤ W.heap.size; have := HZ.out; omega)))
     clear hb h3)) | fail
  all_goals
    go_wp2
    go_ret
    exact ⟨rfl, HF.out⟩
set_option maxHeartbeats 2000000 in
theorem may_n5 (s : ByteArray) (hz : ¬ s.size ≤ 64) (w : World) : Calls Tryd.prog 64 #[.agg #[.int .i64 2, .int .i64 0, .string s, .bool false]] w fun e w' => e = .returned (.bool false) ∧ Below w.heap.size w w' := by
  have hS : ∀ X, Below (w.heap.size + 1) (w.alloc (.cells #[.int .i64 2, .int .i64 0, .string s, .bool false] 33)) X → X.cell? ⟨w.heap.size, 0, none⟩ = some (.int .i64 2) ∧ X.cell? ⟨w.heap.size, 1, none⟩ = some (.int .i64 0) ∧ X.cell? ⟨w.heap.size, 2, none⟩ = some (.string s) ∧ X.cell? ⟨w.heap.size, 3, none⟩ = some (.bool false) := fun X h => v4_box w (2) (0) s false h
  have k1 := hS _ (Below.refl _ _)
  have hd64 : decide ((s.size : Int) ≤ 64) = false := decide_eq_false (by omega)
  clear hz
  have HS := Lib.hid hS
  have HZ : Hid (w.heap.size + 1 = (w.alloc (.cells #[.int .i64 2, .int .i64 0, .string s, .bool false] 33)).heap.size) := by show w.heap.size + 1 = _; simp
  have HW : Hid (Below w.heap.size w (w.alloc (.cells #[.int .i64 2, .int .i64 0, .string s, .bool false] 33))) := (Below.refl _ w).alloc (Nat.le_refl _) _
  clear hS
  go_enter Tryd.func64, Tryd.ntmps64
  go_wp2
  generalize (w.alloc (.cells #[.int .i64 2, .int .i64 0, .string s, .bool false] 33)) = W at HS k1 HW HZ ⊢
  have HB : Hid (Below W.heap.size W W.drew) := (Below.refl _ W).drew
  go_region_held3 (fun X => X.cell? ⟨w.heap.size, 0, none⟩ = some (.int .i64 2) ∧ X.cell? ⟨w.heap.size, 1, none⟩ = some (.int .i64 0) ∧ X.cell? ⟨w.heap.size, 2, none⟩ = some (.string s) ∧ X.cell? ⟨w.heap.size, 3, none⟩ = some (.bool false))
    (first
      | exact k1
      | exact HS.out _ (HB.out.mono (by rw [← HZ.out]; exact Nat.le_refl _))
      | fail)
    ((first
      | (
          go_at_call 85
          (with_reducible refine (vtext_any _ _).mono ?_)
          rintro e w3 ⟨rfl, hb⟩
          have h3 := HB.out.trans (hb.mono HB.out.size)
          have HB := Lib.hid h3
          clear hb h3)))
  have HF := Lib.hid (HW.out.trans (HB.out.mono (by rw [← HZ.out]; omega)))
  clear k1 HS HB HW
  go_wp2
  go_ret
  exact ⟨rfl, HF.out⟩
set_option maxHeartbeats 2000000 in
theorem may_n6 (i : Int) (s : ByteArray) (b : Bool) (hi : ¬ i = 0) (w : World) : Calls Tryd.prog 64 #[.agg #[.int .i64 3, .int .i64 i, .string s, .bool b]] w fun e w' => e = .returned (.bool false) ∧ Below w.heap.size w w' := by
  have hS : ∀ X, Below (w.heap.size + 1) (w.alloc (.cells #[.int .i64 3, .int .i64 i, .string s, .bool b] 33)) X → X.cell? ⟨w.heap.size, 0, none⟩ = some (.int .i64 3) ∧ X.cell? ⟨w.heap.size, 1, none⟩ = some (.int .i64 i) ∧ X.cell? ⟨w.heap.size, 2, none⟩ = some (.string s) ∧ X.cell? ⟨w.heap.size, 3, none⟩ = some (.bool b) := fun X h => v4_box w (3) (i) s b h
  have k1 := hS _ (Below.refl _ _)
  have HS := Lib.hid hS
  have HZ : Hid (w.heap.size + 1 = (w.alloc (.cells #[.int .i64 3, .int .i64 i, .string s, .bool b] 33)).heap.size) := by show w.heap.size + 1 = _; simp
  have HW : Hid (Below w.heap.size w (w.alloc (.cells #[.int .i64 3, .int .i64 i, .string s, .bool b] 33))) := (Below.refl _ w).alloc (Nat.le_refl _) _
  clear hS
  go_enter Tryd.func64, Tryd.ntmps64
  go_wp2
  generalize (w.alloc (.cells #[.int .i64 3, .int .i64 i, .string s, .bool b] 33)) = W at HS k1 HW HZ ⊢
  have HB : Hid (Below W.heap.size W W.drew) := (Below.refl _ W).drew
  go_region_held3 (fun X => X.cell? ⟨w.heap.size, 0, none⟩ = some (.int .i64 3) ∧ X.cell? ⟨w.heap.size, 1, none⟩ = some (.int .i64 i) ∧ X.cell? ⟨w.heap.size, 2, none⟩ = some (.string s) ∧ X.cell? ⟨w.heap.size, 3, none⟩ = some (.bool b))
    (first
      | exact k1
      | exact HS.out _ (HB.out.mono (by rw [← HZ.out]; exact Nat.le_refl _))
      | fail)
    ((first
      | (
          go_at_call 86
          (with_reducible refine (vtruth_any _ _).mono ?_)
          rintro e w3 ⟨rfl, hb⟩
          have h3 := HB.out.trans (hb.mono HB.out.size)
          have HB := Lib.hid h3
          clear hb h3)))
  have HF := Lib.hid (HW.out.trans (HB.out.mono (by rw [← HZ.out]; omega)))
  clear k1 HS HB HW
  go_wp2
  go_ret
  exact ⟨rfl, HF.out⟩
set_option maxHeartbeats 2000000 in
theorem may_n7 (s : ByteArray) (b : Bool) (hs : ¬ s.toList = []) (w : World) : Calls Tryd.prog 64 #[.agg #[.int .i64 3, .int .i64 0, .string s, .bool b]] w fun e w' => e = .returned (.bool false) ∧ Below w.heap.size w w' := by
  have hS : ∀ X, Below (w.heap.size + 1) (w.alloc (.cells #[.int .i64 3, .int .i64 0, .string s, .bool b] 33)) X → X.cell? ⟨w.heap.size, 0, none⟩ = some (.int .i64 3) ∧ X.cell? ⟨w.heap.size, 1, none⟩ = some (.int .i64 0) ∧ X.cell? ⟨w.heap.size, 2, none⟩ = some (.string s) ∧ X.cell? ⟨w.heap.size, 3, none⟩ = some (.bool b) := fun X h => v4_box w (3) (0) s b h
  have k1 := hS _ (Below.refl _ _)
  have HS := Lib.hid hS
  have HZ : Hid (w.heap.size + 1 = (w.alloc (.cells #[.int .i64 3, .int .i64 0, .string s, .bool b] 33)).heap.size) := by show w.heap.size + 1 = _; simp
  have HW : Hid (Below w.heap.size w (w.alloc (.cells #[.int .i64 3, .int .i64 0, .string s, .bool b] 33))) := (Below.refl _ w).alloc (Nat.le_refl _) _
  clear hS
  go_enter Tryd.func64, Tryd.ntmps64
  go_wp2
  generalize (w.alloc (.cells #[.int .i64 3, .int .i64 0, .string s, .bool b] 33)) = W at HS k1 HW HZ ⊢
  have HB : Hid (Below W.heap.size W W.drew) := (Below.refl _ W).drew
  go_region_held3 (fun X => X.cell? ⟨w.heap.size, 0, none⟩ = some (.int .i64 3) ∧ X.cell? ⟨w.heap.size, 1, none⟩ = some (.int .i64 0) ∧ X.cell? ⟨w.heap.size, 2, none⟩ = some (.string s) ∧ X.cell? ⟨w.heap.size, 3, none⟩ = some (.bool b))
    (first
      | exact k1
      | exact HS.out _ (HB.out.mono (by rw [← HZ.out]; exact Nat.le_refl _))
      | fail)
    ((first
      | (
          go_at_call 86
          (with_reducible refine (vtruth_any _ _).mono ?_)
          rintro e w3 ⟨rfl, hb⟩
          have h3 := HB.out.trans (hb.mono HB.out.size)
          have HB := Lib.hid h3
          clear hb h3)))
  have HF := Lib.hid (HW.out.trans (HB.out.mono (by rw [← HZ.out]; omega)))
  clear k1 HS HB HW
  go_wp2
  go_ret
  exact ⟨rfl, HF.out⟩
theorem may_n8 (k i : Int) (s : ByteArray) (b : Bool) (h1 : (k == 1) = false) (h2 : (k == 2) = false) (h3 : (k == 3) = false) (w : World) : Calls Tryd.prog 64 #[.agg #[.int .i64 k, .int .i64 i, .string s, .bool b]] w fun e w' => e = .returned (.bool false) ∧ Below w.heap.size w w' := by
  go_enter Tryd.func64, Tryd.ntmps64
  go_wp2
  go_ret
  exact ⟨rfl, by go_grown⟩
def OkM (k i : Int) (s : ByteArray) (b : Bool) : Prop := (k = 1 ∧ s = ⟨#[]⟩ ∧ b = false) ∨ (k = 2 ∧ i = 0 ∧ b = false ∧ s.size ≤ 64) ∨ (k = 3 ∧ i = 0 ∧ s = ⟨#[]⟩)
theorem vmay_q (k i : Int) (s : ByteArray) (b : Bool) (w : World) : Calls Tryd.prog 64 #[.agg #[.int .i64 k, .int .i64 i, .string s, .bool b]] w (QPost (OkM k i s b) w) := by
  have no : ∀ {e : Ending} {w' : World}, (e = .returned (.bool false) ∧ Below w.heap.size w w') → QPost (OkM k i s b) w e w' := fun ⟨h, hb⟩ => by subst h; exact qpost_no hb
  have yes : OkM k i s b → ∀ {e : Ending} {w' : World}, (e = .returned (.bool true) ∧ Below w.heap.size w w') → QPost (OkM k i s b) w e w' := fun ho _ _ ⟨h, hb⟩ => by subst h; exact qpost (fun _ => ho) hb
  by_cases h1 : k = 1
  · subst h1
    cases b with
    | true => exact (may_n1 i s w).mono fun _ _ h => no h
    | false =>
      by_cases hs : s.toList = []
      · obtain rfl := bytes_nil hs
        exact (may_1 i w).mono fun _ _ h => yes (.inl ⟨rfl, rfl, rfl⟩) h
      · exact (may_n2 i s hs w).mono fun _ _ h => no h
  · by_cases h2 : k = 2
    · subst h2
      cases b with
      | true => exact (may_n3 i s w).mono fun _ _ h => no h
      | false =>
        by_cases hi : i = 0
        · subst hi
          by_cases hz : s.size ≤ 64
          · exact (may_2 s hz w).mono fun _ _ h => yes (.inr (.inl ⟨rfl, rfl, rfl, hz⟩)) h
          · exact (may_n5 s hz w).mono fun _ _ h => no h
        · exact (may_n4 i s hi w).mono fun _ _ h => no h
    · by_cases h3 : k = 3
      · subst h3
        by_cases hi : i = 0
        · subst hi
          by_cases hs : s.toList = []
          · obtain rfl := bytes_nil hs
            exact (may_3 b w).mono fun _ _ h => yes (.inr (.inr ⟨rfl, rfl, rfl⟩)) h
          · exact (may_n7 s b hs w).mono fun _ _ h => no h
        · exact (may_n6 i s b hi w).mono fun _ _ h => no h
      · exact (may_n8 k i s b (by simpa using h1) (by simpa using h2) (by simpa using h3) w).mono fun _ _ h => no h
end Go.Proofs.YtookojgemipakaaDoor.Evl
