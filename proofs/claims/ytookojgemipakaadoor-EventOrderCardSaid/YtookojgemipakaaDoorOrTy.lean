/- Parts of predicates; their numbers of parts; values made. -/
import Derived.Test.YtookojgemipakaaDoorOrSf
import Derived.Deep.RegionHeld3
namespace Go.Proofs.YtookojgemipakaaDoor.Ty
open Go.RowKit Go.Proofs.YtookojgemipakaaDoor Go.Proofs.YtookojgemipakaaDoor.Sch
set_option linter.unusedVariables false
set_option maxRecDepth 100000
/-- A part of a predicate. -/
structure Nd where
  op : Int
  k : Int
  i : Int
  s : ByteArray
  b : Bool
  v : ByteArray
  f : ByteArray
def Nd.cells (n : Nd) : List Value := [.int .i64 n.op, .int .i64 n.k, .int .i64 n.i, .string n.s, .bool n.b, .string n.v, .string n.f]
def Nd.agg (n : Nd) : Value := .agg #[.int .i64 n.op, .int .i64 n.k, .int .i64 n.i, .string n.s, .bool n.b, .string n.v, .string n.f]
def partsI (op : Int) : Int := if op = 1 ∨ op = 2 then 0 else if op = 3 ∨ op = 13 then 1 else if (4 ≤ op ∧ op ≤ 12) ∨ op = 14 ∨ op = 15 then 2 else -1
theorem op_cases (op : Int) : op = 1 ∨ op = 2 ∨ op = 3 ∨ op = 13 ∨ op = 4 ∨ op = 5 ∨ op = 6 ∨ op = 14 ∨ op = 15 ∨ op = 7 ∨ op = 8 ∨ op = 9 ∨ op = 10 ∨ op = 11 ∨ op = 12 ∨ (op < 1 ∨ 15 < op) := by omega
def PartsPost (op : Int) (w : World) (e : Ending) (w' : World) : Prop := e = .returned (.int .i64 (partsI op)) ∧ w = w'
theorem parts_mk {op r : Int} (w : World) (h : partsI op = r) : PartsPost op w (.returned (.int .i64 r)) w := ⟨by rw [h], rfl⟩
theorem parts_any (op : Int) (w : World) : Calls Tryd.prog 44 #[.int .i64 op] w (PartsPost op w) := by
  rcases op_cases op with rfl | rfl | rfl | rfl | rfl | rfl | rfl | rfl | rfl | rfl | rfl | rfl | rfl | rfl | rfl | h
  case inr.inr.inr.inr.inr.inr.inr.inr.inr.inr.inr.inr.inr.inr.inr =>
    have h1 : (op == 1) = false := by simp; omega
    have h2 : (op == 2) = false := by simp; omega
    have h3 : (op == 3) = false := by simp; omega
    have h4 : (op == 4) = false := by simp; omega
    have h5 : (op == 5) = false := by simp; omega
    have h6 : (op == 6) = false := by simp; omega
    have h7 : (op == 7) = false := by simp; omega
    have h8 : (op == 8) = false := by simp; omega
    have h9 : (op == 9) = false := by simp; omega
    have h10 : (op == 10) = false := by simp; omega
    have h11 : (op == 11) = false := by simp; omega
    have h12 : (op == 12) = false := by simp; omega
    have h13 : (op == 13) = false := by simp; omega
    have h14 : (op == 14) = false := by simp; omega
    have h15 : (op == 15) = false := by simp; omega
    have hp : partsI op = -1 := by unfold partsI; rw [if_neg (by omega), if_neg (by omega), if_neg (by omega)]
    have HP := Lib.hid hp
    clear hp h
    go_enter Tryd.func44, Tryd.ntmps44
    go_wp2
    go_ret
    exact parts_mk _ HP.out
  all_goals
    go_enter Tryd.func44, Tryd.ntmps44
    go_wp2
    go_ret
    exact parts_mk _ (by rfl)
theorem parts_is (op r : Int) (w : World) (h : partsI op = r) : Calls Tryd.prog 44 #[.int .i64 op] w fun e w' => e = .returned (.int .i64 r) ∧ w = w' := by
  subst h
  exact parts_any op w
theorem refParts_any (op : Int) (w : World) : Calls Tryd.prog 49 #[.int .i64 op] w (PartsPost op w) := by
  rcases op_cases op with rfl | rfl | rfl | rfl | rfl | rfl | rfl | rfl | rfl | rfl | rfl | rfl | rfl | rfl | rfl | h
  case inr.inr.inr.inr.inr.inr.inr.inr.inr.inr.inr.inr.inr.inr.inr =>
    have h1 : (op == 1) = false := by simp; omega
    have h2 : (op == 2) = false := by simp; omega
    have h3 : (op == 3) = false := by simp; omega
    have h13 : (op == 13) = false := by simp; omega
    have hp : partsI op = -1 := by unfold partsI; rw [if_neg (by omega), if_neg (by omega), if_neg (by omega)]
    have HP := Lib.hid hp
    clear hp
    rcases h with h | h
    · have h4 : decide (4 ≤ op) = false := decide_eq_false (by omega)
      go_enter Tryd.func49, Tryd.ntmps49
      go_wp2
      go_ret
      exact parts_mk _ HP.out
    · have h4 : decide (4 ≤ op) = true := decide_eq_true (by omega)
      have h5 : decide (op ≤ 15) = false := decide_eq_false (by omega)
      go_enter Tryd.func49, Tryd.ntmps49
      go_wp2
      go_ret
      exact parts_mk _ HP.out
  all_goals
    go_enter Tryd.func49, Tryd.ntmps49
    go_wp2
    go_ret
    exact parts_mk _ (by rfl)
theorem refParts_is (op r : Int) (w : World) (h : partsI op = r) : Calls Tryd.prog 49 #[.int .i64 op] w fun e w' => e = .returned (.int .i64 r) ∧ w = w' := by
  subst h
  exact refParts_any op w
theorem vnum_any (n : Int) (w : World) : Calls Tryd.prog 84 #[.int .i64 n] w fun e w' => e = .returned (.agg #[.int .i64 1, .int .i64 n, .string ⟨#[]⟩, .bool false]) ∧ Below w.heap.size w w' := by
  go_enter Tryd.func84, Tryd.ntmps84
  go_wp2
  exact bodyPost_ret (v := .agg #[.int .i64 1, .int .i64 n, .string ⟨#[]⟩, .bool false]) (by simp [results, Tryd.results84, go_sem]; try rfl) rfl ⟨rfl, by go_grown⟩
theorem vtext_any (s : ByteArray) (w : World) : Calls Tryd.prog 85 #[.string s] w fun e w' => e = .returned (.agg #[.int .i64 2, .int .i64 0, .string s, .bool false]) ∧ Below w.heap.size w w' := by
  go_enter Tryd.func85, Tryd.ntmps85
  go_wp2
  exact bodyPost_ret (v := .agg #[.int .i64 2, .int .i64 0, .string s, .bool false]) (by simp [results, Tryd.results85, go_sem]; try rfl) rfl ⟨rfl, by go_grown⟩
theorem vtruth_any (b : Bool) (w : World) : Calls Tryd.prog 86 #[.bool b] w fun e w' => e = .returned (.agg #[.int .i64 3, .int .i64 0, .string ⟨#[]⟩, .bool b]) ∧ Below w.heap.size w w' := by
  go_enter Tryd.func86, Tryd.ntmps86
  go_wp2
  exact bodyPost_ret (v := .agg #[.int .i64 3, .int .i64 0, .string ⟨#[]⟩, .bool b]) (by simp [results, Tryd.results86, go_sem]; try rfl) rfl ⟨rfl, by go_grown⟩
end Go.Proofs.YtookojgemipakaaDoor.Ty

/- Values that may be; parts that have what they need. -/
namespace Go.Proofs.YtookojgemipakaaDoor.Ty
open Go.RowKit Go.Proofs.YtookojgemipakaaDoor Go.Proofs.YtookojgemipakaaDoor.Sch
set_option linter.unusedVariables false
set_option maxRecDepth 100000
theorem v4_box (w : World) (k i : Int) (s : ByteArray) (b : Bool) {X : World} (h : Below (w.heap.size + 1) (w.alloc (.cells #[.int .i64 k, .int .i64 i, .string s, .bool b] 33)) X) : X.cell? ⟨w.heap.size, 0, none⟩ = some (.int .i64 k) ∧ X.cell? ⟨w.heap.size, 1, none⟩ = some (.int .i64 i) ∧ X.cell? ⟨w.heap.size, 2, none⟩ = some (.string s) ∧ X.cell? ⟨w.heap.size, 3, none⟩ = some (.bool b) := by
  have hr : Row X w.heap.size 33 #[.int .i64 k, .int .i64 i, .string s, .bool b] := Row.below (Row.made w _ _) h (by omega)
  exact ⟨hr.cell 0, hr.cell 1, hr.cell 2, hr.cell 3⟩
set_option maxHeartbeats 1000000 in
theorem may_1 (i : Int) (w : World) : Calls Tryd.prog 64 #[.agg #[.int .i64 1, .int .i64 i, .string ⟨#[]⟩, .bool false]] w fun e w' => e = .returned (.bool true) ∧ Below w.heap.size w w' := by
  have hS : ∀ X, Below (w.heap.size + 1) (w.alloc (.cells #[.int .i64 1, .int .i64 i, .string ⟨#[]⟩, .bool false] 33)) X → X.cell? ⟨w.heap.size, 0, none⟩ = some (.int .i64 1) ∧ X.cell? ⟨w.heap.size, 1, none⟩ = some (.int .i64 i) ∧ X.cell? ⟨w.heap.size, 2, none⟩ = some (.string ⟨#[]⟩) ∧ X.cell? ⟨w.heap.size, 3, none⟩ = some (.bool false) := fun X h => v4_box w 1 i ⟨#[]⟩ false h
  have k1 := hS _ (Below.refl _ _)
  have HS := Lib.hid hS
  have HZ : Hid (w.heap.size + 1 = (w.alloc (.cells #[.int .i64 1, .int .i64 i, .string ⟨#[]⟩, .bool false] 33)).heap.size) := by show w.heap.size + 1 = _; simp
  have HW : Hid (Below w.heap.size w (w.alloc (.cells #[.int .i64 1, .int .i64 i, .string ⟨#[]⟩, .bool false] 33))) := (Below.refl _ w).alloc (Nat.le_refl _) _
  clear hS
  go_enter Tryd.func64, Tryd.ntmps64
  go_wp2
  generalize w.alloc (.cells #[.int .i64 1, .int .i64 i, .string ⟨#[]⟩, .bool false] 33) = W at HS k1 HW HZ ⊢
  have HB : Hid (Below W.heap.size W W.drew) := (Below.refl _ W).drew
  go_region_held3 (fun X => X.cell? ⟨w.heap.size, 0, none⟩ = some (.int .i64 1) ∧ X.cell? ⟨w.heap.size, 1, none⟩ = some (.int .i64 i) ∧ X.cell? ⟨w.heap.size, 2, none⟩ = some (.string ⟨#[]⟩) ∧ X.cell? ⟨w.heap.size, 3, none⟩ = some (.bool false))
    (first
      | exact k1
      | exact HS.out _ (HB.out.mono (by rw [← HZ.out]; exact Nat.le_refl _))
      | fail)
    ((
          go_at_call 84
          (with_reducible refine (vnum_any _ _).mono ?_)
          rintro e w3 ⟨rfl, hb⟩
          have h3 := HB.out.trans (hb.mono HB.out.size)
          have HB := Lib.hid h3
          clear hb h3))
  have HF := Lib.hid (HW.out.trans (HB.out.mono (by rw [← HZ.out]; omega)))
  clear k1 HS HB HW
  go_wp2
  go_ret
  exact ⟨rfl, HF.out⟩
set_option maxHeartbeats 1000000 in
theorem may_2 (s : ByteArray) (hs : s.size ≤ 64) (w : World) : Calls Tryd.prog 64 #[.agg #[.int .i64 2, .int .i64 0, .string s, .bool false]] w fun e w' => e = .returned (.bool true) ∧ Below w.heap.size w w' := by
  have hS : ∀ X, Below (w.heap.size + 1) (w.alloc (.cells #[.int .i64 2, .int .i64 0, .string s, .bool false] 33)) X → X.cell? ⟨w.heap.size, 0, none⟩ = some (.int .i64 2) ∧ X.cell? ⟨w.heap.size, 1, none⟩ = some (.int .i64 0) ∧ X.cell? ⟨w.heap.size, 2, none⟩ = some (.string s) ∧ X.cell? ⟨w.heap.size, 3, none⟩ = some (.bool false) := fun X h => v4_box w 2 0 s false h
  have k1 := hS _ (Below.refl _ _)
  have hd64 : decide ((s.size : Int) ≤ 64) = true := decide_eq_true (by omega)
  have HS := Lib.hid hS
  have HZ : Hid (w.heap.size + 1 = (w.alloc (.cells #[.int .i64 2, .int .i64 0, .string s, .bool false] 33)).heap.size) := by show w.heap.size + 1 = _; simp
  have HW : Hid (Below w.heap.size w (w.alloc (.cells #[.int .i64 2, .int .i64 0, .string s, .bool false] 33))) := (Below.refl _ w).alloc (Nat.le_refl _) _
  clear hS
  go_enter Tryd.func64, Tryd.ntmps64
  go_wp2
  generalize w.alloc (.cells #[.int .i64 2, .int .i64 0, .string s, .bool false] 33) = W at HS k1 HW HZ ⊢
  have HB : Hid (Below W.heap.size W W.drew) := (Below.refl _ W).drew
  go_region_held3 (fun X => X.cell? ⟨w.heap.size, 0, none⟩ = some (.int .i64 2) ∧ X.cell? ⟨w.heap.size, 1, none⟩ = some (.int .i64 0) ∧ X.cell? ⟨w.heap.size, 2, none⟩ = some (.string s) ∧ X.cell? ⟨w.heap.size, 3, none⟩ = some (.bool false))
    (first
      | exact k1
      | exact HS.out _ (HB.out.mono (by rw [← HZ.out]; exact Nat.le_refl _))
      | fail)
    ((
          go_at_call 85
          (with_reducible refine (vtext_any _ _).mono ?_)
          rintro e w3 ⟨rfl, hb⟩
          have h3 := HB.out.trans (hb.mono HB.out.size)
          have HB := Lib.hid h3
          clear hb h3))
  have HF := Lib.hid (HW.out.trans (HB.out.mono (by rw [← HZ.out]; omega)))
  clear k1 HS HB HW
  go_wp2
  go_ret
  exact ⟨rfl, HF.out⟩
set_option maxHeartbeats 1000000 in
theorem may_3 (b : Bool) (w : World) : Calls Tryd.prog 64 #[.agg #[.int .i64 3, .int .i64 0, .string ⟨#[]⟩, .bool b]] w fun e w' => e = .returned (.bool true) ∧ Below w.heap.size w w' := by
  have hS : ∀ X, Below (w.heap.size + 1) (w.alloc (.cells #[.int .i64 3, .int .i64 0, .string ⟨#[]⟩, .bool b] 33)) X → X.cell? ⟨w.heap.size, 0, none⟩ = some (.int .i64 3) ∧ X.cell? ⟨w.heap.size, 1, none⟩ = some (.int .i64 0) ∧ X.cell? ⟨w.heap.size, 2, none⟩ = some (.string ⟨#[]⟩) ∧ X.cell? ⟨w.heap.size, 3, none⟩ = some (.bool b) := fun X h => v4_box w 3 0 ⟨#[]⟩ b h
  have k1 := hS _ (Below.refl _ _)
  have HS := Lib.hid hS
  have HZ : Hid (w.heap.size + 1 = (w.alloc (.cells #[.int .i64 3, .int .i64 0, .string ⟨#[]⟩, .bool b] 33)).heap.size) := by show w.heap.size + 1 = _; simp
  have HW : Hid (Below w.heap.size w (w.alloc (.cells #[.int .i64 3, .int .i64 0, .string ⟨#[]⟩, .bool b] 33))) := (Below.refl _ w).alloc (Nat.le_refl _) _
  clear hS
  go_enter Tryd.func64, Tryd.ntmps64
  go_wp2
  generalize w.alloc (.cells #[.int .i64 3, .int .i64 0, .string ⟨#[]⟩, .bool b] 33) = W at HS k1 HW HZ ⊢
  have HB : Hid (Below W.heap.size W W.drew) := (Below.refl _ W).drew
  go_region_held3 (fun X => X.cell? ⟨w.heap.size, 0, none⟩ = some (.int .i64 3) ∧ X.cell? ⟨w.heap.size, 1, none⟩ = some (.int .i64 0) ∧ X.cell? ⟨w.heap.size, 2, none⟩ = some (.string ⟨#[]⟩) ∧ X.cell? ⟨w.heap.size, 3, none⟩ = some (.bool b))
    (first
      | exact k1
      | exact HS.out _ (HB.out.mono (by rw [← HZ.out]; exact Nat.le_refl _))
      | fail)
    ((
          go_at_call 86
          (with_reducible refine (vtruth_any _ _).mono ?_)
          rintro e w3 ⟨rfl, hb⟩
          have h3 := HB.out.trans (hb.mono HB.out.size)
          have HB := Lib.hid h3
          clear hb h3))
  have HF := Lib.hid (HW.out.trans (HB.out.mono (by rw [← HZ.out]; omega)))
  clear k1 HS HB HW
  go_wp2
  go_ret
  exact ⟨rfl, HF.out⟩
end Go.Proofs.YtookojgemipakaaDoor.Ty

/- Constants that may stand in a predicate; parts that have what they need. -/
namespace Go.Proofs.YtookojgemipakaaDoor.Ty
open Go.RowKit Go.Proofs.YtookojgemipakaaDoor Go.Proofs.YtookojgemipakaaDoor.Sch
set_option linter.unusedVariables false
set_option maxRecDepth 100000
set_option maxHeartbeats 1000000 in
theorem const_1 (i : Int) (hi : (i == -9223372036854775808) = false) (w : World) : Calls Tryd.prog 69 #[.agg #[.int .i64 1, .int .i64 i, .string ⟨#[]⟩, .bool false]] w fun e w' => e = .returned (.bool true) ∧ Below w.heap.size w w' := by
  have hS : ∀ X, Below (w.heap.size + 1) (w.alloc (.cells #[.int .i64 1, .int .i64 i, .string ⟨#[]⟩, .bool false] 33)) X → X.cell? ⟨w.heap.size, 0, none⟩ = some (.int .i64 1) ∧ X.cell? ⟨w.heap.size, 1, none⟩ = some (.int .i64 i) ∧ X.cell? ⟨w.heap.size, 2, none⟩ = some (.string ⟨#[]⟩) ∧ X.cell? ⟨w.heap.size, 3, none⟩ = some (.bool false) := fun X h => v4_box w 1 i ⟨#[]⟩ false h
  have k1 := hS _ (Below.refl _ _)
  have HS := Lib.hid hS
  have HZ : Hid (w.heap.size + 1 = (w.alloc (.cells #[.int .i64 1, .int .i64 i, .string ⟨#[]⟩, .bool false] 33)).heap.size) := by show w.heap.size + 1 = _; simp
  have HW : Hid (Below w.heap.size w (w.alloc (.cells #[.int .i64 1, .int .i64 i, .string ⟨#[]⟩, .bool false] 33))) := (Below.refl _ w).alloc (Nat.le_refl _) _
  clear hS
  go_enter Tryd.func69, Tryd.ntmps69
  go_wp2
  generalize w.alloc (.cells #[.int .i64 1, .int .i64 i, .string ⟨#[]⟩, .bool false] 33) = W at HS k1 HW HZ ⊢
  have HB : Hid (Below W.heap.size W W.drew) := (Below.refl _ W).drew
  go_region_held3 (fun X => X.cell? ⟨w.heap.size, 0, none⟩ = some (.int .i64 1) ∧ X.cell? ⟨w.heap.size, 1, none⟩ = some (.int .i64 i) ∧ X.cell? ⟨w.heap.size, 2, none⟩ = some (.string ⟨#[]⟩) ∧ X.cell? ⟨w.heap.size, 3, none⟩ = some (.bool false))
    (first
      | exact k1
      | exact HS.out _ (HB.out.mono (by rw [← HZ.out]; exact Nat.le_refl _))
      | fail)
    ((first
      | (
          go_at_call 64
          (with_reducible refine (may_1 _ _).mono ?_)
          rintro e w3 ⟨rfl, hb⟩
          have h3 := HB.out.trans (hb.mono HB.out.size)
          have HB := Lib.hid h3
          clear hb h3)
      | (
          go_at_call 84
          (with_reducible refine (vnum_any _ _).mono ?_)
          rintro e w3 ⟨rfl, hb⟩
          have h3 := HB.out.trans (hb.mono HB.out.size)
          have HB := Lib.hid h3
          clear hb h3)))
  have HF := Lib.hid (HW.out.trans (HB.out.mono (by rw [← HZ.out]; omega)))
  clear k1 HS HB HW
  go_wp2
  go_ret
  exact ⟨rfl, HF.out⟩
set_option maxHeartbeats 1000000 in
theorem const_2 (s : ByteArray) (hs : s.size ≤ 64) (w : World) : Calls Tryd.prog 69 #[.agg #[.int .i64 2, .int .i64 0, .string s, .bool false]] w fun e w' => e = .returned (.bool true) ∧ Below w.heap.size w w' := by
  have hS : ∀ X, Below (w.heap.size + 1) (w.alloc (.cells #[.int .i64 2, .int .i64 0, .string s, .bool false] 33)) X → X.cell? ⟨w.heap.size, 0, none⟩ = some (.int .i64 2) ∧ X.cell? ⟨w.heap.size, 1, none⟩ = some (.int .i64 0) ∧ X.cell? ⟨w.heap.size, 2, none⟩ = some (.string s) ∧ X.cell? ⟨w.heap.size, 3, none⟩ = some (.bool false) := fun X h => v4_box w 2 0 s false h
  have k1 := hS _ (Below.refl _ _)
  have HS := Lib.hid hS
  have HZ : Hid (w.heap.size + 1 = (w.alloc (.cells #[.int .i64 2, .int .i64 0, .string s, .bool false] 33)).heap.size) := by show w.heap.size + 1 = _; simp
  have HW : Hid (Below w.heap.size w (w.alloc (.cells #[.int .i64 2, .int .i64 0, .string s, .bool false] 33))) := (Below.refl _ w).alloc (Nat.le_refl _) _
  clear hS
  go_enter Tryd.func69, Tryd.ntmps69
  go_wp2
  generalize w.alloc (.cells #[.int .i64 2, .int .i64 0, .string s, .bool false] 33) = W at HS k1 HW HZ ⊢
  have HB : Hid (Below W.heap.size W W.drew) := (Below.refl _ W).drew
  go_region_held3 (fun X => X.cell? ⟨w.heap.size, 0, none⟩ = some (.int .i64 2) ∧ X.cell? ⟨w.heap.size, 1, none⟩ = some (.int .i64 0) ∧ X.cell? ⟨w.heap.size, 2, none⟩ = some (.string s) ∧ X.cell? ⟨w.heap.size, 3, none⟩ = some (.bool false))
    (first
      | exact k1
      | exact HS.out _ (HB.out.mono (by rw [← HZ.out]; exact Nat.le_refl _))
      | fail)
    ((first
      | (
          go_at_call 64
          (with_reducible refine (may_2 _ hs _).mono ?_)
          rintro e w3 ⟨rfl, hb⟩
          have h3 := HB.out.trans (hb.mono HB.out.size)
          have HB := Lib.hid h3
          clear hb h3)
      | (
          go_at_call 84
          (with_reducible refine (vnum_any _ _).mono ?_)
          rintro e w3 ⟨rfl, hb⟩
          have h3 := HB.out.trans (hb.mono HB.out.size)
          have HB := Lib.hid h3
          clear hb h3)))
  have HF := Lib.hid (HW.out.trans (HB.out.mono (by rw [← HZ.out]; omega)))
  clear k1 HS HB HW
  go_wp2
  go_ret
  exact ⟨rfl, HF.out⟩
set_option maxHeartbeats 1000000 in
theorem const_3 (b : Bool) (w : World) : Calls Tryd.prog 69 #[.agg #[.int .i64 3, .int .i64 0, .string ⟨#[]⟩, .bool b]] w fun e w' => e = .returned (.bool true) ∧ Below w.heap.size w w' := by
  have hS : ∀ X, Below (w.heap.size + 1) (w.alloc (.cells #[.int .i64 3, .int .i64 0, .string ⟨#[]⟩, .bool b] 33)) X → X.cell? ⟨w.heap.size, 0, none⟩ = some (.int .i64 3) ∧ X.cell? ⟨w.heap.size, 1, none⟩ = some (.int .i64 0) ∧ X.cell? ⟨w.heap.size, 2, none⟩ = some (.string ⟨#[]⟩) ∧ X.cell? ⟨w.heap.size, 3, none⟩ = some (.bool b) := fun X h => v4_box w 3 0 ⟨#[]⟩ b h
  have k1 := hS _ (Below.refl _ _)
  have HS := Lib.hid hS
  have HZ : Hid (w.heap.size + 1 = (w.alloc (.cells #[.int .i64 3, .int .i64 0, .string ⟨#[]⟩, .bool b] 33)).heap.size) := by show w.heap.size + 1 = _; simp
  have HW : Hid (Below w.heap.size w (w.alloc (.cells #[.int .i64 3, .int .i64 0, .string ⟨#[]⟩, .bool b] 33))) := (Below.refl _ w).alloc (Nat.le_refl _) _
  clear hS
  go_enter Tryd.func69, Tryd.ntmps69
  go_wp2
  generalize w.alloc (.cells #[.int .i64 3, .int .i64 0, .string ⟨#[]⟩, .bool b] 33) = W at HS k1 HW HZ ⊢
  have HB : Hid (Below W.heap.size W W.drew) := (Below.refl _ W).drew
  go_region_held3 (fun X => X.cell? ⟨w.heap.size, 0, none⟩ = some (.int .i64 3) ∧ X.cell? ⟨w.heap.size, 1, none⟩ = some (.int .i64 0) ∧ X.cell? ⟨w.heap.size, 2, none⟩ = some (.string ⟨#[]⟩) ∧ X.cell? ⟨w.heap.size, 3, none⟩ = some (.bool b))
    (first
      | exact k1
      | exact HS.out _ (HB.out.mono (by rw [← HZ.out]; exact Nat.le_refl _))
      | fail)
    ((first
      | (
          go_at_call 64
          (with_reducible refine (may_3 _ _).mono ?_)
          rintro e w3 ⟨rfl, hb⟩
          have h3 := HB.out.trans (hb.mono HB.out.size)
          have HB := Lib.hid h3
          clear hb h3)
      | (
          go_at_call 84
          (with_reducible refine (vnum_any _ _).mono ?_)
          rintro e w3 ⟨rfl, hb⟩
          have h3 := HB.out.trans (hb.mono HB.out.size)
          have HB := Lib.hid h3
          clear hb h3)))
  have HF := Lib.hid (HW.out.trans (HB.out.mono (by rw [← HZ.out]; omega)))
  clear k1 HS HB HW
  go_wp2
  go_ret
  exact ⟨rfl, HF.out⟩
/-- A constant that may stand in a predicate. -/
inductive OkV : Int → Int → ByteArray → Bool → Prop
  | num (i : Int) (hi : (i == -9223372036854775808) = false) : OkV 1 i ⟨#[]⟩ false
  | text (s : ByteArray) (hs : s.size ≤ 64) : OkV 2 0 s false
  | truth (b : Bool) : OkV 3 0 ⟨#[]⟩ b
theorem const_ok {k i : Int} {s : ByteArray} {b : Bool} (h : OkV k i s b) (w : World) : Calls Tryd.prog 69 #[.agg #[.int .i64 k, .int .i64 i, .string s, .bool b]] w fun e w' => e = .returned (.bool true) ∧ Below w.heap.size w w' := by
  cases h with
  | num i hi => exact const_1 i hi w
  | text s hs => exact const_2 s hs w
  | truth b => exact const_3 b w
theorem own_const {k i : Int} {s : ByteArray} {b : Bool} (h : OkV k i s b) (w : World) : Calls Tryd.prog 45 #[.agg #[.int .i64 1, .int .i64 k, .int .i64 i, .string s, .bool b, .string ⟨#[]⟩, .string ⟨#[]⟩]] w fun e w' => e = .returned (.bool true) ∧ Below w.heap.size w w' := by
  go_enter Tryd.func45, Tryd.ntmps45
  go_wp2_with fail
  refine (const_ok h _).mono ?_
  rintro e w1 ⟨rfl, hb⟩
  have HB := Lib.hid hb
  clear hb
  go_wp2
  go_ret
  exact ⟨rfl, ((Below.refl _ w).alloc (Nat.le_refl _) _).trans (HB.out.mono (by simp))⟩
theorem own_field {v f : ByteArray} (hv : nameB v.data.toList = true) (hf : nameB f.data.toList = true) (w : World) : Calls Tryd.prog 45 #[.agg #[.int .i64 2, .int .i64 0, .int .i64 0, .string ⟨#[]⟩, .bool false, .string v, .string f]] w fun e w' => e = .returned (.bool true) ∧ Below w.heap.size w w' := by
  have HV := Lib.hid hv
  have HF := Lib.hid hf
  clear hv hf
  go_enter Tryd.func45, Tryd.ntmps45
  go_wp2_with fail
  refine (name_is v true _ HV.out).mono ?_
  rintro e w1 ⟨rfl, rfl⟩
  go_wp2_with fail
  refine (name_is f true _ HF.out).mono ?_
  rintro e w1 ⟨rfl, rfl⟩
  go_wp2
  go_ret
  exact ⟨rfl, by go_grown⟩
theorem own_op (op : Int) (h1 : (op == 1) = false) (h2 : (op == 2) = false) (w : World) : Calls Tryd.prog 45 #[.agg #[.int .i64 op, .int .i64 0, .int .i64 0, .string ⟨#[]⟩, .bool false, .string ⟨#[]⟩, .string ⟨#[]⟩]] w fun e w' => e = .returned (.bool true) ∧ Below w.heap.size w w' := by
  go_enter Tryd.func45, Tryd.ntmps45
  go_wp2
  go_ret
  exact ⟨rfl, by go_grown⟩
end Go.Proofs.YtookojgemipakaaDoor.Ty

/- Predicates: lists of parts, each behind those that it is of. -/
namespace Go.Proofs.YtookojgemipakaaDoor.Ty
open Go.RowKit Go.Proofs.YtookojgemipakaaDoor Go.Proofs.YtookojgemipakaaDoor.Sch
set_option linter.unusedVariables false
set_option maxRecDepth 100000
/-- A part that has what it needs. -/
inductive OkN : Nd → Prop
  | const {k i : Int} {s : ByteArray} {b : Bool} (h : OkV k i s b) : OkN ⟨1, k, i, s, b, ⟨#[]⟩, ⟨#[]⟩⟩
  | field {v f : ByteArray} (hv : nameB v.data.toList = true) (hf : nameB f.data.toList = true) : OkN ⟨2, 0, 0, ⟨#[]⟩, false, v, f⟩
  | op (o : Int) (h1 : 3 ≤ o) (h2 : o ≤ 15) : OkN ⟨o, 0, 0, ⟨#[]⟩, false, ⟨#[]⟩, ⟨#[]⟩⟩
theorem OkN.parts {n : Nd} (h : OkN n) : 0 ≤ partsI n.op ∧ partsI n.op ≤ 2 := by
  cases h with
  | const h => show 0 ≤ partsI 1 ∧ partsI 1 ≤ 2; decide
  | field hv hf => show 0 ≤ partsI 2 ∧ partsI 2 ≤ 2; decide
  | op o h1 h2 =>
    show 0 ≤ partsI o ∧ partsI o ≤ 2
    unfold partsI
    split
    · omega
    · split
      · omega
      · rw [if_pos (by omega)]; omega
theorem own_ok {n : Nd} (h : OkN n) (w : World) : Calls Tryd.prog 45 #[.agg #[.int .i64 n.op, .int .i64 n.k, .int .i64 n.i, .string n.s, .bool n.b, .string n.v, .string n.f]] w fun e w' => e = .returned (.bool true) ∧ Below w.heap.size w w' := by
  cases h with
  | const h => exact own_const h w
  | field hv hf => exact own_field hv hf w
  | op o h1 h2 => exact own_op o (by simp; omega) (by simp; omega) w
/-- Parts as they lie in memory. -/
def Ns (w : World) (B : Nat) (v : Value) (l : List Nd) : Prop :=
  ∃ A c, v = .slice A l.length c ∧ l.length ≤ c ∧ c ≤ 9223372036854775807 ∧ ∀ k (h : k < l.length), ∃ g o, A = some ⟨g, o, none⟩ ∧ g < B ∧ ∀ j u, (l[k].cells)[j]? = some u → w.cell? ⟨g, o + k * 7 + j, none⟩ = some u
theorem Ns.below {w w' : World} {B B' : Nat} {v : Value} {l : List Nd} (h : Ns w B v l) (hb : Below B w w') (hB : B ≤ B') : Ns w' B' v l := by
  obtain ⟨A, c, rfl, h1, h2, h3⟩ := h
  refine ⟨A, c, rfl, h1, h2, fun k hk => ?_⟩
  obtain ⟨g, o, e, hg, hc⟩ := h3 k hk
  exact ⟨g, o, e, by omega, fun j u hj => (hb.cell (p := ⟨g, o + k * 7 + j, none⟩) hg).trans (hc j u hj)⟩
/-- How many things are there, behind parts. -/
def dep (l : List Nd) : Int := (l.map fun n => 1 - partsI n.op).sum
theorem dep_snoc (l : List Nd) (n : Nd) : dep (l ++ [n]) = dep l + (1 - partsI n.op) := by
  unfold dep
  rw [List.map_append, List.sum_append]
  simp
structure Good (l : List Nd) : Prop where
  len : l.length ≤ 64
  ok : ∀ k (h : k < l.length), OkN l[k]
  low : ∀ k (h : k < l.length), partsI l[k].op ≤ dep (l.take k)
  one : dep l = 1
theorem dep_take {l : List Nd} {k : Nat} (h : k < l.length) : dep (l.take (k + 1)) = dep (l.take k) + (1 - partsI l[k].op) := by
  rw [List.take_succ_eq_append_getElem h, dep_snoc]
theorem Good.bd {l : List Nd} (h : Good l) : ∀ k, k ≤ l.length → 0 ≤ dep (l.take k) ∧ dep (l.take k) ≤ k
  | 0, _ => by simp [dep]
  | k + 1, hk => by
    have ih := h.bd k (by omega)
    have h1 := h.low k (by omega)
    have h2 := (h.ok k (by omega)).parts
    rw [dep_take (by omega)]
    omega
set_option maxHeartbeats 2000000 in
theorem tmay_yes (v : Value) (l : List Nd) (w : World) (hl : Ns w w.heap.size v l) (hg : Good l) :
    Calls Tryd.prog 27 #[v] w fun e w' => e = .returned (.bool true) ∧ Below w.heap.size w w' := by
  have HL := Lib.hid hl
  obtain ⟨A, c, rfl, hnc, hcm, hx0⟩ := hl
  obtain ⟨n, hn⟩ : ∃ n, l.length = n := ⟨_, rfl⟩
  have h64 := hg.len
  rw [hn] at HL hnc h64 ⊢
  have HN := Lib.hid hn
  have HG := Lib.hid hg
  clear hx0 hn hg
  go_enter Tryd.func27, Tryd.ntmps27
  go_wp2
  go_loopw [12, 3, 5, 6] (fun v12 v3 s5 s6 wx => ∃ k : Nat, ∃ d : Int, k ≤ n ∧ v12 = .int .i64 k ∧ v3 = .int .i64 d ∧ Hid (dep (l.take k) = d) ∧ Hid (Below w.heap.size w wx)) (fun v12 _ _ _ _ => n - (intOf v12).toNat)
  case atStart => exact ⟨0, 0, by omega, rfl, rfl, Lib.hid rfl, Lib.hid (Below.refl _ _)⟩
  case round =>
    obtain ⟨k, d, hkn, rfl, rfl, HD, HB⟩ := hrel
    have hbd := HG.out.bd k (by rw [HN.out]; exact hkn)
    rw [HD.out] at hbd
    obtain ⟨hd0, hd1⟩ := hbd
    by_cases hlt : k < n
    · have hk1 : (k : Int) < (n : Int) := by omega
      have hkl : k < l.length := by rw [HN.out]; exact hlt
      obtain ⟨A', c', e1, hx1, hx2, h3⟩ := HL.out.below HB.out (Nat.le_refl _)
      injection e1 with e1 e2 e3
      subst e1 e3
      clear e2 hx1 hx2
      obtain ⟨g, o, rfl, hgw, hcl⟩ := h3 k hkl
      have hok := HG.out.ok k hkl
      have hlow := HG.out.low k hkl
      have hp2 := hok.parts
      have hdt := dep_take hkl
      rw [HD.out] at hlow hdt
      obtain ⟨nd, hnd⟩ : ∃ nd, l[k] = nd := ⟨_, rfl⟩
      rw [hnd] at hcl hok hlow hp2 hdt
      obtain ⟨op, kd, i, s, b, vv, ff⟩ := nd
      obtain ⟨p, hp⟩ : ∃ p, partsI op = p := ⟨_, rfl⟩
      dsimp only at hlow hp2 hdt
      rw [hp] at hlow hp2 hdt
      obtain ⟨hp0, hp2⟩ := hp2
      have HP := Lib.hid hp
      have HOK := Lib.hid hok
      have HDT := Lib.hid hdt
      have c0 := hcl 0 (.int .i64 op) rfl
      have c1 := hcl 1 (.int .i64 kd) rfl
      have c2 := hcl 2 (.int .i64 i) rfl
      have c3 := hcl 3 (.string s) rfl
      have c4 := hcl 4 (.bool b) rfl
      have c5 := hcl 5 (.string vv) rfl
      have c6 := hcl 6 (.string ff) rfl
      simp only [Nat.add_zero] at c0
      clear hcl h3 hnd hp hok hdt
      have hq1 : decide (p < 0) = false := decide_eq_false (by omega)
      have hq2 : decide (d < p) = false := decide_eq_false (by omega)
      obtain ⟨V, rfl⟩ : ∃ V, V = wr := ⟨_, rfl⟩
      go_wp2_with fail
      refine (parts_is op p _ HP.out).mono ?_
      rintro e w1 ⟨rfl, rfl⟩
      go_wp2_with fail
      refine (own_ok (n := ⟨op, kd, i, s, b, vv, ff⟩) HOK.out _).mono ?_
      rintro e w2 ⟨rfl, hb2⟩
      have HB2 := Lib.hid (HB.out.trans ((((Below.refl _ V).alloc (Nat.le_refl _) _).trans (hb2.mono (by simp))).mono HB.out.size))
      clear hb2
      go_wp2
      go_roundw
      case rel => exact ⟨k + 1, d + (1 - p), by omega, by go_num, rfl, HDT, HB2⟩
      case measure => simp [intOf]; omega
    · obtain rfl : k = n := by omega
      have hk1 : ¬ (k : Int) < (k : Int) := by omega
      have hone := HG.out.one
      have hd := HD.out
      rw [List.take_of_length_le (by rw [HN.out]; exact Nat.le_refl _), hone] at hd
      subst hd
      go_wp2
      go_ret
      exact ⟨rfl, HB.out⟩
theorem tmay_nil (w : World) : Calls Tryd.prog 27 #[.slice none 0 0] w fun e w' => e = .returned (.bool false) ∧ w = w' := by
  go_enter Tryd.func27, Tryd.ntmps27
  go_wp2
  go_loopw [12, 3] (fun v12 v3 wx => v12 = .int .i64 0 ∧ v3 = .int .i64 0 ∧ w = wx) (fun _ _ _ => 0)
  case atStart => exact ⟨rfl, rfl, rfl⟩
  case round =>
    obtain ⟨rfl, rfl, rfl⟩ := hrel
    go_wp2
    go_ret
    exact ⟨rfl, rfl⟩
end Go.Proofs.YtookojgemipakaaDoor.Ty

/- Whether something is so of all kinds. -/
namespace Go.Proofs.YtookojgemipakaaDoor.Ty
open Go.RowKit Go.Proofs.YtookojgemipakaaDoor Go.Proofs.YtookojgemipakaaDoor.Sch
set_option linter.unusedVariables false
set_option maxRecDepth 100000
/-- Numbers as they lie in memory. -/
def IL (w : World) (B : Nat) (v : Value) (L : List Int) : Prop :=
  ∃ A c, v = .slice A L.length c ∧ L.length ≤ c ∧ c ≤ 9223372036854775807 ∧ ∀ k (h : k < L.length), ∃ g o, A = some ⟨g, o, none⟩ ∧ g < B ∧ w.cell? ⟨g, o + k, none⟩ = some (.int .i64 L[k])
theorem IL.below {w w' : World} {B B' : Nat} {v : Value} {L : List Int} (h : IL w B v L) (hb : Below B w w') (hB : B ≤ B') : IL w' B' v L := by
  obtain ⟨A, c, rfl, h1, h2, h3⟩ := h
  refine ⟨A, c, rfl, h1, h2, fun k hk => ?_⟩
  obtain ⟨g, o, e, hg, hc⟩ := h3 k hk
  exact ⟨g, o, e, by omega, (hb.cell (p := ⟨g, o + k, none⟩) hg).trans hc⟩
theorem IL.zero (w : World) (B : Nat) : IL w B (.slice none 0 0) [] := ⟨none, 0, rfl, by simp, by omega, fun k hk => by simp at hk⟩
/-- Where the first thing stands of which something is so; -1: nowhere. -/
def fstI (f : Int → Bool) (L : List Int) : Int := match L.findIdx? f with
  | some k => k
  | none => -1
def NoneUp (f : Int → Bool) (L : List Int) (k : Nat) : Prop := ∀ j (h : j < L.length), j < k → f L[j] = false
theorem fst_at {f : Int → Bool} {L : List Int} {k : Nat} (hk : k < L.length) (h : f L[k] = true) (hn : NoneUp f L k) : fstI f L = k := by
  unfold fstI
  have : L.findIdx? f = some k := by
    rw [List.findIdx?_eq_some_iff_getElem]
    exact ⟨hk, h, fun j hj => by have := hn j (by omega) hj; simp [this]⟩
  rw [this]
theorem fst_no {f : Int → Bool} {L : List Int} (hn : NoneUp f L L.length) : fstI f L = -1 := by
  unfold fstI
  have : L.findIdx? f = none := by
    rw [List.findIdx?_eq_none_iff]
    intro x hx
    obtain ⟨j, hj, rfl⟩ := List.getElem_of_mem hx
    exact hn j hj hj
  rw [this]
theorem noneUp_succ {f : Int → Bool} {L : List Int} {k : Nat} (h : NoneUp f L k) (hk : k < L.length) (g : f L[k] = false) : NoneUp f L (k + 1) := fun j hj h1 => by
  by_cases e : j = k
  · subst e; exact g
  · exact h j hj (by omega)
theorem fst_all (f : Int → Bool) (L : List Int) : decide (fstI (fun x => !f x) L < 0) = L.all f := by
  unfold fstI
  cases h : L.findIdx? (fun x => !f x) with
  | none =>
    rw [List.findIdx?_eq_none_iff] at h
    have : L.all f = true := List.all_eq_true.2 fun x hx => by simpa using h x hx
    rw [this]
    decide
  | some k =>
    rw [List.findIdx?_eq_some_iff_getElem] at h
    obtain ⟨hk, h1, _⟩ := h
    have : L.all f = false := List.all_eq_false.2 ⟨L[k], List.getElem_mem hk, by simpa using h1⟩
    rw [this]
    have : ¬ ((k : Int) < 0) := by omega
    exact decide_eq_false this
end Go.Proofs.YtookojgemipakaaDoor.Ty

/- The kind of a part that is of others. -/
namespace Go.Proofs.YtookojgemipakaaDoor.Ty
open Go.RowKit Go.Proofs.YtookojgemipakaaDoor Go.Proofs.YtookojgemipakaaDoor.Sch
set_option linter.unusedVariables false
set_option maxRecDepth 100000
/-- A kind, if what it asks for is so. -/
def ask (k : Int) (so : Bool) : Int × Int := if so = true then (k, 0) else (0, 10)
/-- What a part of an op comes to, by the kinds that it is of. -/
def opK (o : Int) (L : List Int) : Int × Int :=
  if o ≤ 6 then ask 1 (L.all (fun x => x == 1)) else if 13 ≤ o then ask 3 (L.all (fun x => x == 3)) else ask 3 (L.all (fun x => x == L.headD 0))
def KPost (w : World) (r : Int × Int) (e : Ending) (w' : World) : Prop := e = .returned (.tuple #[.int .i64 r.1, .int .i64 r.2]) ∧ Below w.heap.size w w'
theorem kpost_mk {w w' : World} {r r' : Int × Int} (h : r = r') (hb : Below w.heap.size w w') : KPost w r' (.returned (.tuple #[.int .i64 r.1, .int .i64 r.2])) w' := ⟨by rw [h], hb⟩
end Go.Proofs.YtookojgemipakaaDoor.Ty

/- What variables stand for; where the one of a name stands; fields of a schema, whatever is asked. -/
namespace Go.Proofs.YtookojgemipakaaDoor.Ty
open Go.RowKit Go.Proofs.YtookojgemipakaaDoor Go.Proofs.YtookojgemipakaaDoor.Sch
set_option linter.unusedVariables false
set_option maxRecDepth 100000
/-- Texts as they lie in memory. -/
def SL (w : World) (B : Nat) (v : Value) (L : List ByteArray) : Prop :=
  ∃ A c, v = .slice A L.length c ∧ L.length ≤ c ∧ c ≤ 9223372036854775807 ∧ ∀ k (h : k < L.length), ∃ g o, A = some ⟨g, o, none⟩ ∧ g < B ∧ w.cell? ⟨g, o + k, none⟩ = some (.string L[k])
theorem SL.below {w w' : World} {B B' : Nat} {v : Value} {L : List ByteArray} (h : SL w B v L) (hb : Below B w w') (hB : B ≤ B') : SL w' B' v L := by
  obtain ⟨A, c, rfl, h1, h2, h3⟩ := h
  refine ⟨A, c, rfl, h1, h2, fun k hk => ?_⟩
  obtain ⟨g, o, e, hg, hc⟩ := h3 k hk
  exact ⟨g, o, e, by omega, (hb.cell (p := ⟨g, o + k, none⟩) hg).trans hc⟩
abbrev Bd := ByteArray × List ByteArray
/-- What variables stand for, as it lies in memory. -/
def Bs (w : World) (B : Nat) (v : Value) (bs : List Bd) : Prop :=
  ∃ A c, v = .slice A bs.length c ∧ bs.length ≤ c ∧ c ≤ 9223372036854775807 ∧
    ∀ k (h : k < bs.length), ∃ g o tv, A = some ⟨g, o, none⟩ ∧ g < B ∧ w.cell? ⟨g, o + k * 2, none⟩ = some (.string bs[k].1) ∧ w.cell? ⟨g, o + k * 2 + 1, none⟩ = some tv ∧ SL w B tv bs[k].2
theorem Bs.below {w w' : World} {B B' : Nat} {v : Value} {bs : List Bd} (h : Bs w B v bs) (hb : Below B w w') (hB : B ≤ B') : Bs w' B' v bs := by
  obtain ⟨A, c, rfl, h1, h2, h3⟩ := h
  refine ⟨A, c, rfl, h1, h2, fun k hk => ?_⟩
  obtain ⟨g, o, tv, e, hg, c0, c1, hs⟩ := h3 k hk
  exact ⟨g, o, tv, e, by omega, (hb.cell (p := ⟨g, o + k * 2, none⟩) hg).trans c0, (hb.cell (p := ⟨g, o + k * 2 + 1, none⟩) hg).trans c1, hs.below hb hB⟩
/-- The place and the kind of a type's field. -/
def fieldS (ts : List Ty) (n f : ByteArray) : Int × Int :=
  match ts[(idx (ts.map Prod.fst) n).toNat]? with
  | none => (-1, 0)
  | some t => if idx (ts.map Prod.fst) n < 0 then (-1, 0) else match t.2[(idx (t.2.map Prod.fst) f).toNat]? with
    | none => (-1, 0)
    | some x => if idx (t.2.map Prod.fst) f < 0 then (-1, 0) else (idx (t.2.map Prod.fst) f, x.2)
theorem fieldS_any (p : Option Addr) (ts : List Ty) (n f : ByteArray) (w : World) (hs : Sc w w.heap.size p ts) :
    Calls Tryd.prog 40 #[.pointer p, .string n, .string f] w fun e w' => e = .returned (.tuple #[.int .i64 (fieldS ts n f).1, .int .i64 (fieldS ts n f).2]) ∧ Below w.heap.size w w' := by
  obtain ⟨hi1, hi2⟩ := idx_lt (l := ts.map Prod.fst) (nm := n)
  rw [List.length_map] at hi1
  by_cases h0 : idx (ts.map Prod.fst) n < 0
  · have e : fieldS ts n f = (-1, 0) := by
      unfold fieldS
      split
      · rfl
      · rw [if_pos h0]
    rw [e]
    exact field_no1 p ts n f w hs h0
  · obtain ⟨i, hi⟩ : ∃ i : Nat, idx (ts.map Prod.fst) n = i := ⟨(idx (ts.map Prod.fst) n).toNat, by omega⟩
    have hil : i < ts.length := by omega
    have hti : ts[i]? = some (ts[i].1, ts[i].2) := List.getElem?_eq_getElem hil
    obtain ⟨hj1, hj2⟩ := idx_lt (l := (ts[i].2).map Prod.fst) (nm := f)
    rw [List.length_map] at hj1
    by_cases h1 : idx ((ts[i].2).map Prod.fst) f < 0
    · have e : fieldS ts n f = (-1, 0) := by
        unfold fieldS
        rw [hi, Int.toNat_natCast, hti]
        dsimp only
        rw [if_neg (by omega)]
        split
        · rfl
        · rw [if_pos h1]
      rw [e]
      exact field_no2 p ts n f i _ w hs hi hti h1
    · obtain ⟨j, hj⟩ : ∃ j : Nat, idx ((ts[i].2).map Prod.fst) f = j := ⟨(idx ((ts[i].2).map Prod.fst) f).toNat, by omega⟩
      have hjl : j < (ts[i].2).length := by omega
      have htj : (ts[i].2)[j]? = some ((ts[i].2)[j].1, (ts[i].2)[j].2) := List.getElem?_eq_getElem hjl
      have e : fieldS ts n f = ((j : Int), (ts[i].2)[j].2) := by
        unfold fieldS
        rw [hi, Int.toNat_natCast, hti]
        dsimp only
        rw [if_neg (by omega), hj, Int.toNat_natCast, htj]
        dsimp only
        rw [if_neg (by omega)]
      rw [e]
      exact field_yes p ts n f w.heap.size i j _ w hs (Nat.le_refl _) hi hti hj htj
end Go.Proofs.YtookojgemipakaaDoor.Ty

