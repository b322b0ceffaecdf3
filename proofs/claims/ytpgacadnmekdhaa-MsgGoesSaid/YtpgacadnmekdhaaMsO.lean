/- Messages that came in, opened. -/
import Derived.Test.YtpgacadnmekdhaaMsD
import Derived.Test.YtpgacadnmekdhaaEvO
namespace Go.Proofs.Ytpgacadnmekdhaa.Ms
open Go.RowKit Go.Proofs.Ytpgacadnmekdhaa Go.Proofs.Ytpgacadnmekdhaa.Ev Go.ChangeShapes Go.WideShapes
set_option linter.unusedVariables false
set_option maxRecDepth 100000
section
variable {H : Type} {enc : TypeId × Value → H} {w : World} {spare : Nat → Bool} {held : Bool} {fuel : Nat} {cs : List Value} {x : DataW H × List MemPlace}
/-- A message's cells, as it came in. -/
def MIc (m : MI) (tick : Int) (id : ByteArray) (eA : Option Addr) (en ec : Nat) (win cap : Int) : List Value :=
  [.int .i64 m.kind, .int .i64 tick, .string m.e.ty, .string m.e.key, .int .i64 m.e.t, .int .i64 m.e.q, .slice m.e.va m.e.vn m.e.vc, .int .i64 m.T, .string id, .slice eA en ec, .int .i64 win, .int .i64 cap]
def MIOk (w : World) (m : MI) : Prop := EIOk w w.heap.size m.e ∧ (-9223372036854775808 ≤ m.kind ∧ m.kind ≤ 9223372036854775807) ∧ (-9223372036854775808 ≤ m.T ∧ m.T ≤ 9223372036854775807)
theorem open_msg (h : DataW.trod enc Try.prog w 0 spare held fuel 85 cs = some x) :
    ∃ m tick id eA en ec win cap, cs = MIc m tick id eA en ec win cap ∧ MIOk w m := by
  obtain ⟨a, b, c0, c1, c2, c3, c4, d, e, f, g, i, rfl⟩ := list12 (trod_struct_len (n := 12) (by kernel_rfl) (by kernel_rfl) h)
  obtain ⟨_, _, h0⟩ := trod_field (ft := 3) 0 (off := 0) (by kernel_rfl) h
  obtain ⟨_, _, h1⟩ := trod_field (ft := 2) 1 (off := 1) (by kernel_rfl) h
  obtain ⟨_, _, h2⟩ := trod_field (ft := 80) 2 (off := 2) (by kernel_rfl) h
  obtain ⟨_, _, h3⟩ := trod_field (ft := 2) 3 (off := 7) (by kernel_rfl) h
  obtain ⟨_, _, h4⟩ := trod_field (ft := 9) 4 (off := 8) (by kernel_rfl) h
  obtain ⟨_, _, h5⟩ := trod_field (ft := 83) 5 (off := 9) (by kernel_rfl) h
  rw [show Try.prog.cellsOf 3 = 1 by kernel_rfl] at h0
  rw [show Try.prog.cellsOf 2 = 1 by kernel_rfl] at h1 h3
  rw [show Try.prog.cellsOf 80 = 5 by kernel_rfl] at h2
  rw [show Try.prog.cellsOf 9 = 1 by kernel_rfl] at h4
  rw [show Try.prog.cellsOf 83 = 3 by kernel_rfl] at h5
  obtain ⟨_, _, k0⟩ := trod_field (ft := 81) 0 (off := 0) (by kernel_rfl) h5
  obtain ⟨_, _, k1⟩ := trod_field (ft := 2) 1 (off := 1) (by kernel_rfl) h5
  obtain ⟨_, _, k2⟩ := trod_field (ft := 3) 2 (off := 2) (by kernel_rfl) h5
  rw [show Try.prog.cellsOf 81 = 1 by kernel_rfl] at k0
  rw [show Try.prog.cellsOf 2 = 1 by kernel_rfl] at k1
  rw [show Try.prog.cellsOf 3 = 1 by kernel_rfl] at k2
  obtain ⟨kind, rfl, w0⟩ := one_int Try.underlying3 h0
  obtain ⟨tick, rfl, w1⟩ := one_int Try.underlying2 h1
  obtain ⟨ev, hev, hok⟩ := open_event h2
  obtain ⟨T, rfl, w3⟩ := one_int Try.underlying2 h3
  obtain ⟨id, rfl, w4⟩ := one_str Try.underlying9 h4
  obtain ⟨eA, en, ec, rfl, _, _, _⟩ := one_slice (e := 92) Try.underlying81 (by decide +kernel) k0
  obtain ⟨win, rfl, _⟩ := one_int Try.underlying2 k1
  obtain ⟨cap, rfl, _⟩ := one_int Try.underlying3 k2
  refine ⟨⟨kind, ev, T⟩, tick, id, eA, en, ec, win, cap, ?_, hok, bounds_i64 w0, bounds_i64 w3⟩
  have he : [c0, c1, c2, c3, c4] = ev.cells := hev
  unfold EI.cells at he
  injection he with e0 he
  injection he with e1 he
  injection he with e2 he
  injection he with e3 he
  injection he with e4 he
  subst e0 e1 e2 e3 e4
  rfl
theorem open_msg_arg {base : Nat} {v : Value} {d : DataW H} {p : List MemPlace} (hv : Value.okWide Try.prog w .any base 85 v) (h : DataW.Trod enc Try.prog w 0 (fun _ => true) true 85 v d p) :
    ∃ m tick id eA en ec win cap, v = .agg #[.int .i64 m.kind, .int .i64 tick, .string m.e.ty, .string m.e.key, .int .i64 m.e.t, .int .i64 m.e.q, .slice m.e.va m.e.vn m.e.vc, .int .i64 m.T, .string id, .slice eA en ec, .int .i64 win, .int .i64 cap] ∧ MIOk w m := by
  obtain ⟨cs, rfl, _⟩ := okWide_struct (by kernel_rfl) hv
  obtain ⟨fuel, hf⟩ := h
  obtain ⟨m, tick, id, eA, en, ec, win, cap, hc, ho⟩ := open_msg hf
  refine ⟨m, tick, id, eA, en, ec, win, cap, ?_, ho⟩
  have : cs.toList = MIc m tick id eA en ec win cap := hc
  rw [← Array.toArray_toList (xs := cs), this]
  rfl
theorem open_msgs_arg {base : Nat} {v : Value} {d : DataW H} {p : List MemPlace} (hv : Value.okWide Try.prog w .any base 86 v) (h : DataW.Trod enc Try.prog w 0 (fun _ => true) true 86 v d p) :
    ∃ A n c f, v = .slice A n c ∧ n ≤ c ∧ c ≤ 9223372036854775807 ∧ MLies w w.heap.size A n f := by
  obtain ⟨a, l, c, rfl⟩ := okWide_slice Try.underlying86 hv
  obtain ⟨fuel, hf⟩ := h
  obtain ⟨A, n, cc, he, h1, h2, hk⟩ := one_slice (e := 85) Try.underlying86 (by rw [show Try.prog.cellsOf 85 = 12 by kernel_rfl]; omega) (by simpa [Value.cells] using hf)
  rw [show Try.prog.cellsOf 85 = 12 by kernel_rfl] at hk
  have each : ∀ k, k < n → ∃ m : MI, ∃ g o, A = some ⟨g, o, none⟩ ∧ g < w.heap.size ∧ w.cell? ⟨g, o + k * 12, none⟩ = some (.int .i64 m.kind) ∧ w.cell? ⟨g, o + k * 12 + 2, none⟩ = some (.string m.e.ty) ∧ w.cell? ⟨g, o + k * 12 + 3, none⟩ = some (.string m.e.key) ∧ w.cell? ⟨g, o + k * 12 + 4, none⟩ = some (.int .i64 m.e.t) ∧ w.cell? ⟨g, o + k * 12 + 5, none⟩ = some (.int .i64 m.e.q) ∧ w.cell? ⟨g, o + k * 12 + 6, none⟩ = some (.slice m.e.va m.e.vn m.e.vc) ∧ w.cell? ⟨g, o + k * 12 + 7, none⟩ = some (.int .i64 m.T) ∧ EIOk w w.heap.size m.e ∧ (-9223372036854775808 ≤ m.kind ∧ m.kind ≤ 9223372036854775807) ∧ (-9223372036854775808 ≤ m.T ∧ m.T ≤ 9223372036854775807) := fun k hkn => by
    obtain ⟨g, o, es, m, y, hA, hg, hl, hc, ht⟩ := hk k hkn
    obtain ⟨m, tick, id, eA, en, ec, win, cap, rfl, ho⟩ := open_msg ht
    exact ⟨m, g, o, hA, hg, hc 0 _ rfl, hc 2 _ rfl, hc 3 _ rfl, hc 4 _ rfl, hc 5 _ rfl, hc 6 _ rfl, hc 7 _ rfl, ho⟩
  refine ⟨A, n, cc, fun k => if h : k < n then Classical.choose (each k h) else ⟨0, ⟨ByteArray.empty, ByteArray.empty, 0, 0, none, 0, 0, fun _ => ⟨0, 0, ByteArray.empty, false⟩⟩, 0⟩, he, h1, h2, fun k hkn => ?_⟩
  simp only [dif_pos hkn]
  exact Classical.choose_spec (each k hkn)
end
end Go.Proofs.Ytpgacadnmekdhaa.Ms
