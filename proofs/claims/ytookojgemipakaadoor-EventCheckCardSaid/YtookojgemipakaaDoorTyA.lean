/- Parts of predicates; their numbers of parts; values made. -/
import Derived.Test.YtookojgemipakaaDoorSchI
import Derived.Test.YtookojgemipakaaDoorSfB
namespace Go.Proofs.YtookojgemipakaaDoor.Ty
open Go.RowKit Go.Proofs.YtookojgemipakaaDoor Go.Proofs.YtookojgemipakaaDoor.Sch
set_option linter.unusedVariables false
set_option maxRecDepth 100000
/-- A part of a predicate. -/
structure Nd where
  op : Int
  k : Int
  i : Int
  s : ByteArray
  b : Bool
  v : ByteArray
  f : ByteArray
def Nd.cells (n : Nd) : List Value := [.int .i64 n.op, .int .i64 n.k, .int .i64 n.i, .string n.s, .bool n.b, .string n.v, .string n.f]
def Nd.agg (n : Nd) : Value := .agg #[.int .i64 n.op, .int .i64 n.k, .int .i64 n.i, .string n.s, .bool n.b, .string n.v, .string n.f]
def partsI (op : Int) : Int := if op = 1 ∨ op = 2 then 0 else if op = 3 ∨ op = 13 then 1 else if (4 ≤ op ∧ op ≤ 12) ∨ op = 14 ∨ op = 15 then 2 else -1
theorem op_cases (op : Int) : op = 1 ∨ op = 2 ∨ op = 3 ∨ op = 13 ∨ op = 4 ∨ op = 5 ∨ op = 6 ∨ op = 14 ∨ op = 15 ∨ op = 7 ∨ op = 8 ∨ op = 9 ∨ op = 10 ∨ op = 11 ∨ op = 12 ∨ (op < 1 ∨ 15 < op) := by omega
def PartsPost (op : Int) (w : World) (e : Ending) (w' : World) : Prop := e = .returned (.int .i64 (partsI op)) ∧ w = w'
theorem parts_mk {op r : Int} (w : World) (h : partsI op = r) : PartsPost op w (.returned (.int .i64 r)) w := ⟨by rw [h], rfl⟩
theorem parts_any (op : Int) (w : World) : Calls Tryd.prog 44 #[.int .i64 op] w (PartsPost op w) := by
  rcases op_cases op with rfl | rfl | rfl | rfl | rfl | rfl | rfl | rfl | rfl | rfl | rfl | rfl | rfl | rfl | rfl | h
  case inr.inr.inr.inr.inr.inr.inr.inr.inr.inr.inr.inr.inr.inr.inr =>
    have h1 : (op == 1) = false := by simp; omega
    have h2 : (op == 2) = false := by simp; omega
    have h3 : (op == 3) = false := by simp; omega
    have h4 : (op == 4) = false := by simp; omega
    have h5 : (op == 5) = false := by simp; omega
    have h6 : (op == 6) = false := by simp; omega
    have h7 : (op == 7) = false := by simp; omega
    have h8 : (op == 8) = false := by simp; omega
    have h9 : (op == 9) = false := by simp; omega
    have h10 : (op == 10) = false := by simp; omega
    have h11 : (op == 11) = false := by simp; omega
    have h12 : (op == 12) = false := by simp; omega
    have h13 : (op == 13) = false := by simp; omega
    have h14 : (op == 14) = false := by simp; omega
    have h15 : (op == 15) = false := by simp; omega
    have hp : partsI op = -1 := by unfold partsI; rw [if_neg (by omega), if_neg (by omega), if_neg (by omega)]
    have HP := Lib.hid hp
    clear hp h
    go_enter Tryd.func44, Tryd.ntmps44
    go_wp2
    go_ret
    exact parts_mk _ HP.out
  all_goals
    go_enter Tryd.func44, Tryd.ntmps44
    go_wp2
    go_ret
    exact parts_mk _ (by rfl)
theorem parts_is (op r : Int) (w : World) (h : partsI op = r) : Calls Tryd.prog 44 #[.int .i64 op] w fun e w' => e = .returned (.int .i64 r) ∧ w = w' := by
  subst h
  exact parts_any op w
theorem refParts_any (op : Int) (w : World) : Calls Tryd.prog 49 #[.int .i64 op] w (PartsPost op w) := by
  rcases op_cases op with rfl | rfl | rfl | rfl | rfl | rfl | rfl | rfl | rfl | rfl | rfl | rfl | rfl | rfl | rfl | h
  case inr.inr.inr.inr.inr.inr.inr.inr.inr.inr.inr.inr.inr.inr.inr =>
    have h1 : (op == 1) = false := by simp; omega
    have h2 : (op == 2) = false := by simp; omega
    have h3 : (op == 3) = false := by simp; omega
    have h13 : (op == 13) = false := by simp; omega
    have hp : partsI op = -1 := by unfold partsI; rw [if_neg (by omega), if_neg (by omega), if_neg (by omega)]
    have HP := Lib.hid hp
    clear hp
    rcases h with h | h
    · have h4 : decide (4 ≤ op) = false := decide_eq_false (by omega)
      go_enter Tryd.func49, Tryd.ntmps49
      go_wp2
      go_ret
      exact parts_mk _ HP.out
    · have h4 : decide (4 ≤ op) = true := decide_eq_true (by omega)
      have h5 : decide (op ≤ 15) = false := decide_eq_false (by omega)
      go_enter Tryd.func49, Tryd.ntmps49
      go_wp2
      go_ret
      exact parts_mk _ HP.out
  all_goals
    go_enter Tryd.func49, Tryd.ntmps49
    go_wp2
    go_ret
    exact parts_mk _ (by rfl)
theorem refParts_is (op r : Int) (w : World) (h : partsI op = r) : Calls Tryd.prog 49 #[.int .i64 op] w fun e w' => e = .returned (.int .i64 r) ∧ w = w' := by
  subst h
  exact refParts_any op w
theorem vnum_any (n : Int) (w : World) : Calls Tryd.prog 84 #[.int .i64 n] w fun e w' => e = .returned (.agg #[.int .i64 1, .int .i64 n, .string ⟨#[]⟩, .bool false]) ∧ Below w.heap.size w w' := by
  go_enter Tryd.func84, Tryd.ntmps84
  go_wp2
  exact bodyPost_ret (v := .agg #[.int .i64 1, .int .i64 n, .string ⟨#[]⟩, .bool false]) (by simp [results, Tryd.results84, go_sem]; try rfl) rfl ⟨rfl, by go_grown⟩
theorem vtext_any (s : ByteArray) (w : World) : Calls Tryd.prog 85 #[.string s] w fun e w' => e = .returned (.agg #[.int .i64 2, .int .i64 0, .string s, .bool false]) ∧ Below w.heap.size w w' := by
  go_enter Tryd.func85, Tryd.ntmps85
  go_wp2
  exact bodyPost_ret (v := .agg #[.int .i64 2, .int .i64 0, .string s, .bool false]) (by simp [results, Tryd.results85, go_sem]; try rfl) rfl ⟨rfl, by go_grown⟩
theorem vtruth_any (b : Bool) (w : World) : Calls Tryd.prog 86 #[.bool b] w fun e w' => e = .returned (.agg #[.int .i64 3, .int .i64 0, .string ⟨#[]⟩, .bool b]) ∧ Below w.heap.size w w' := by
  go_enter Tryd.func86, Tryd.ntmps86
  go_wp2
  exact bodyPost_ret (v := .agg #[.int .i64 3, .int .i64 0, .string ⟨#[]⟩, .bool b]) (by simp [results, Tryd.results86, go_sem]; try rfl) rfl ⟨rfl, by go_grown⟩
end Go.Proofs.YtookojgemipakaaDoor.Ty
