/- Small words that every walk of this seat uses. -/
import Derived.Test.YtnibmfijkbfaeaaRows
import Derived.WalkKit
import Derived.WalkSpells
import Derived.WalkLawsBesides
import Derived.Handy
import Derived.Lib.Hide
import Derived.Laws.IdiomStrings
import Derived.OwnWalk
import Derived.BigCall
import Derived.OpenShut
import Derived.RegionTactic
import Derived.Deep.RegionWith
import Derived.Deep.QuietTactic
import Derived.BigQuiet
namespace Go.Proofs.Ytnibmfijkbfaeaa
open Go.RowKit

theorem ret_int {k : IntKind} {a b : Int} (h : a = b) : Ending.returned (.int k a) = .returned (.int k b) := by rw [h]
theorem ret_int' (k : IntKind) {a b : Int} (h : a = b) : Ending.returned (.int k a) = .returned (.int k b) := by rw [h]
theorem ret_bool {a b : Bool} (h : a = b) : Ending.returned (.bool a) = .returned (.bool b) := by rw [h]
theorem ret_two {a b c d : Int} (h : a = c) (g : b = d) : Ending.returned (.tuple #[.int .i64 a, .int .i64 b]) = .returned (.tuple #[.int .i64 c, .int .i64 d]) := by rw [h, g]
theorem ret_str {a b : ByteArray} (h : a = b) : Ending.returned (.string a) = .returned (.string b) := by rw [h]
theorem sd (s : ByteArray) (k : Nat) (_ : k < s.size) (h : k < s.data.toList.length) : s.data.toList[k] = s[k] := by simp; rfl
theorem take_snoc (s : ByteArray) (k : Nat) (h : k < s.size) : s.data.toList.take (k + 1) = s.data.toList.take k ++ [s[k]] := by
  rw [List.take_succ_eq_append_getElem (by simpa using h)]; rfl
theorem take_all (s : ByteArray) : s.data.toList.take s.size = s.data.toList := List.take_of_length_le (by simp)
theorem toList_data (s : ByteArray) : s.toList = s.data.toList := ByteArray.toList_eq s
theorem after {f : FuncId} {args : Array Value} {x : Ending} (w0 w : World) (hb : Below w0.heap.size w0 w) (h : Calls Try.prog f args w fun e w' => e = x ∧ Below w.heap.size w w') :
    Calls Try.prog f args w fun e w' => e = x ∧ Below w0.heap.size w0 w' :=
  h.mono fun _ _ ⟨a, b⟩ => ⟨a, hb.trans (b.mono hb.size)⟩
theorem ret_u64 {a b c : Nat} (h : a = b * 10 + (c - 48)) (g : 48 ≤ c) : Value.int .u64 ((b : Int) * 10 + ((c : Int) - 48)) = .int .u64 (a : Int) := by
  rw [show ((a : Nat) : Int) = (b : Int) * 10 + ((c : Int) - 48) from by omega]
end Go.Proofs.Ytnibmfijkbfaeaa
