/- The reference's queries: their types, and the nodes of their predicates. -/
import Derived.Test.YtaimbkikiokenaaTab
import Derived.Test.YtaimbkikiokenaaBits2
import Derived.Deep.DeepCutAuto
import Derived.Deep.RegionHeld3
namespace Go.Proofs.Ytaimbkikiokenaa.Pq
open Go.RowKit Go.Proofs.Ytaimbkikiokenaa
set_option linter.unusedVariables false
set_option maxRecDepth 100000

theorem Own.to {w0 w : World} {L L' : List (Nat × TypeId × Array Value)} (h : Own w0 w L) (e : L = L') : Own w0 w L' := e ▸ h
theorem Own.drew {w0 w : World} {L : List (Nat × TypeId × Array Value)} (h : Own w0 w L) : Own w0 w.drew L := ⟨⟨h.be.os, h.be.tape, h.be.output, h.be.size, h.be.block⟩, h.rows, h.apart⟩
/-- A node of a predicate. -/
structure Nd where
  op : Int
  kind : Int
  i : Int
  s : ByteArray
  b : Bool
  var : ByteArray
  field : ByteArray
def Nd.cells (n : Nd) : List Value := [.int .i64 n.op, .int .i64 n.kind, .int .i64 n.i, .string n.s, .bool n.b, .string n.var, .string n.field]
/-- A new list of texts. -/
structure Strs (w0 w : World) (v : Value) (L : List ByteArray) : Prop where
  some : ∃ b, v = .slice (some ⟨b, 0, none⟩) L.length L.length ∧ w0.heap.size ≤ b ∧ Row w b 9 (L.map Value.string).toArray
  be : Below w0.heap.size w0 w
theorem vars_any (w : World) : Calls Try.prog 64 #[] w fun e w' => e = .returned (.slice (some ⟨w.heap.size, 0, none⟩) 4 4) ∧ Row w' w.heap.size 9 #[.string ⟨#[97]⟩, .string ⟨#[98]⟩, .string ⟨#[99]⟩, .string ⟨#[101]⟩] ∧ Below w.heap.size w w' := by
  have HR := Lib.hid (Row.made w 9 #[.string ⟨#[97]⟩, .string ⟨#[98]⟩, .string ⟨#[99]⟩, .string ⟨#[101]⟩])
  go_enter Try.func64, Try.ntmps64
  go_wp2
  go_ret
  exact ⟨rfl, HR.out, by go_grown⟩
def tyL (j : Nat) : List ByteArray := match j with
  | 0 => [⟨#[65]⟩]
  | 1 => [⟨#[66]⟩]
  | 2 => [⟨#[67]⟩]
  | 3 => [⟨#[65]⟩, ⟨#[66]⟩]
  | 4 => [⟨#[66]⟩, ⟨#[67]⟩]
  | _ => [⟨#[65]⟩, ⟨#[66]⟩, ⟨#[67]⟩]
theorem tyL_len (j : Nat) : 1 ≤ (tyL j).length ∧ (tyL j).length ≤ 3 := by unfold tyL; split <;> simp
set_option maxHeartbeats 2000000 in
theorem types_any (y : Int) (hy : 0 ≤ y) (hy2 : y ≤ 9223372036854775807) (w : World) : Calls Try.prog 65 #[.int .i64 y] w fun e w' => ∃ v, e = .returned v ∧ Strs w w' v (tyL (y % 6).toNat) := by
  have h6 : y % 6 = 0 ∨ y % 6 = 1 ∨ y % 6 = 2 ∨ y % 6 = 3 ∨ y % 6 = 4 ∨ y % 6 = 5 := by omega
  have hM : Own w (((((((w.alloc (.cells #[.string ⟨#[65]⟩] 9)).alloc (.cells #[.string ⟨#[66]⟩] 9)).alloc (.cells #[.string ⟨#[67]⟩] 9)).alloc (.cells #[.string ⟨#[65]⟩, .string ⟨#[66]⟩] 9)).alloc (.cells #[.string ⟨#[66]⟩, .string ⟨#[67]⟩] 9)).alloc (.cells #[.string ⟨#[65]⟩, .string ⟨#[66]⟩, .string ⟨#[67]⟩] 9)).alloc (.cells #[.slice (some ⟨w.heap.size, 0, none⟩) 1 1, .slice (some ⟨w.heap.size + 1, 0, none⟩) 1 1, .slice (some ⟨w.heap.size + 2, 0, none⟩) 1 1, .slice (some ⟨w.heap.size + 3, 0, none⟩) 2 2, .slice (some ⟨w.heap.size + 4, 0, none⟩) 2 2, .slice (some ⟨w.heap.size + 5, 0, none⟩) 3 3] 59)) [(w.heap.size + 6, 59, #[.slice (some ⟨w.heap.size, 0, none⟩) 1 1, .slice (some ⟨w.heap.size + 1, 0, none⟩) 1 1, .slice (some ⟨w.heap.size + 2, 0, none⟩) 1 1, .slice (some ⟨w.heap.size + 3, 0, none⟩) 2 2, .slice (some ⟨w.heap.size + 4, 0, none⟩) 2 2, .slice (some ⟨w.heap.size + 5, 0, none⟩) 3 3]), (w.heap.size + 5, 9, #[.string ⟨#[65]⟩, .string ⟨#[66]⟩, .string ⟨#[67]⟩]), (w.heap.size + 4, 9, #[.string ⟨#[66]⟩, .string ⟨#[67]⟩]), (w.heap.size + 3, 9, #[.string ⟨#[65]⟩, .string ⟨#[66]⟩]), (w.heap.size + 2, 9, #[.string ⟨#[67]⟩]), (w.heap.size + 1, 9, #[.string ⟨#[66]⟩]), (w.heap.size, 9, #[.string ⟨#[65]⟩])] := by
    have := (((((((Own.start w).made 9 #[.string ⟨#[65]⟩]).made 9 #[.string ⟨#[66]⟩]).made 9 #[.string ⟨#[67]⟩]).made 9 #[.string ⟨#[65]⟩, .string ⟨#[66]⟩]).made 9 #[.string ⟨#[66]⟩, .string ⟨#[67]⟩]).made 9 #[.string ⟨#[65]⟩, .string ⟨#[66]⟩, .string ⟨#[67]⟩]).made 59 #[.slice (some ⟨w.heap.size, 0, none⟩) 1 1, .slice (some ⟨w.heap.size + 1, 0, none⟩) 1 1, .slice (some ⟨w.heap.size + 2, 0, none⟩) 1 1, .slice (some ⟨w.heap.size + 3, 0, none⟩) 2 2, .slice (some ⟨w.heap.size + 4, 0, none⟩) 2 2, .slice (some ⟨w.heap.size + 5, 0, none⟩) 3 3]
    simp only [World.size_alloc] at this
    exact this
  have HM := Lib.hid hM
  clear hM
  rcases h6 with h | h | h | h | h | h
  all_goals
    have HY := Lib.hid h
    go_enter Try.func65, Try.ntmps65
    go_wp2
    go_ret
    rw [HY.out]
  · exact ⟨_, rfl, ⟨_, rfl, Nat.le_refl _, HM.out.row 6 rfl⟩, HM.out.be⟩
  · exact ⟨_, rfl, ⟨_, rfl, by omega, HM.out.row 5 rfl⟩, HM.out.be⟩
  · exact ⟨_, rfl, ⟨_, rfl, by omega, HM.out.row 4 rfl⟩, HM.out.be⟩
  · exact ⟨_, rfl, ⟨_, rfl, by omega, HM.out.row 3 rfl⟩, HM.out.be⟩
  · exact ⟨_, rfl, ⟨_, rfl, by omega, HM.out.row 2 rfl⟩, HM.out.be⟩
  · exact ⟨_, rfl, ⟨_, rfl, by omega, HM.out.row 1 rfl⟩, HM.out.be⟩
theorem field_any (v f : ByteArray) (w : World) : Calls Try.prog 98 #[.string v, .string f] w fun e w' => e = .returned (.agg #[.int .i64 2, .int .i64 0, .int .i64 0, .string ⟨#[]⟩, .bool false, .string v, .string f]) ∧ Below w.heap.size w w' := by
  go_enter Try.func98, Try.ntmps98
  go_wp2
  exact bodyPost_ret (v := .agg #[.int .i64 2, .int .i64 0, .int .i64 0, .string ⟨#[]⟩, .bool false, .string v, .string f]) (by simp [results, Try.results98, go_sem]) rfl ⟨rfl, by go_grown⟩
theorem num_any (n : Int) (w : World) (h0 : 0 ≤ n) (h1 : n ≤ 3) : Calls Try.prog 99 #[.int .i64 n] w fun e w' => e = .returned (.agg #[.int .i64 1, .int .i64 1, .int .i64 n, .string ⟨#[]⟩, .bool false, .string ⟨#[]⟩, .string ⟨#[]⟩]) ∧ Below w.heap.size w w' := by
  go_enter Try.func99, Try.ntmps99
  go_wp2
  exact bodyPost_ret (v := .agg #[.int .i64 1, .int .i64 1, .int .i64 n, .string ⟨#[]⟩, .bool false, .string ⟨#[]⟩, .string ⟨#[]⟩]) (by simp [results, Try.results99, go_sem]) rfl ⟨rfl, by go_grown⟩
end Go.Proofs.Ytaimbkikiokenaa.Pq
