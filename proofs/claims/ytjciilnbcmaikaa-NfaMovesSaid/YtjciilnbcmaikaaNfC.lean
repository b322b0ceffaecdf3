/- Where beginnings may be: the states, read. -/
import Derived.Test.YtjciilnbcmaikaaNfB
namespace Go.Proofs.Ytjciilnbcmaikaa.Nf
open Go.RowKit Go.Proofs.Ytjciilnbcmaikaa Go.Proofs.Ytjciilnbcmaikaa.Pa Go.Proofs.Ytjciilnbcmaikaa.Pc
set_option linter.unusedVariables false
set_option maxRecDepth 100000

/-- Where beginnings may be, at nb, to be read. -/
structure NR (w : World) (nb g o n c : Nat) (win cap : Int) (E : Nat → ElV) (sg so sc : Nat) (L : List (Int × Int)) : Prop where
  row : Row w nb 163 #[.slice (some ⟨g, o, none⟩) n c, .int .i64 win, .int .i64 cap, .slice (some ⟨sg, so, none⟩) L.length sc]
  le : LE w g o n E
  st : ∀ k s, L[k]? = some s → w.cell? ⟨sg, so + k * 2, none⟩ = some (.int .i64 s.1) ∧ w.cell? ⟨sg, so + k * 2 + 1, none⟩ = some (.int .i64 s.2)
  sl : sg < w.heap.size
  ln : 1 ≤ L.length ∧ L.length ≤ 500
section
variable {w w' : World} {nb g o n c sg so sc : Nat} {win cap : Int} {E : Nat → ElV} {L : List (Int × Int)}
theorem NR.call (h : NR w nb g o n c win cap E sg so sc L) (t : Below w.heap.size w w') : NR w' nb g o n c win cap E sg so sc L :=
  ⟨h.row.below t h.row.lt, h.le.call t, fun k s hk => ⟨(t.cell (p := ⟨sg, so + k * 2, none⟩) h.sl).trans (h.st k s hk).1, (t.cell (p := ⟨sg, so + k * 2 + 1, none⟩) h.sl).trans (h.st k s hk).2⟩, Nat.lt_of_lt_of_le h.sl t.size, h.ln⟩
theorem NR.drewN (h : NR w nb g o n c win cap E sg so sc L) (q : Nat) : NR (w.drewN q) nb g o n c win cap E sg so sc L := ⟨h.row, h.le.drewN q, h.st, h.sl, h.ln⟩
theorem NR.c3 (h : NR w nb g o n c win cap E sg so sc L) : w.cell? ⟨nb, 3, none⟩ = some (.slice (some ⟨sg, so, none⟩) L.length sc) := h.row.cell 3
theorem NF.read {w0 : World} {v : Value} (h : NF w0 w nb g o n c win cap E v L) (hl : 1 ≤ L.length ∧ L.length ≤ 500) : ∃ sg so sc, NR w nb g o n c win cap E sg so sc L := by
  obtain ⟨ob, hs, _⟩ := h.sg
  obtain ⟨sg, so, sc, rfl, hg, _, _, hc, _⟩ := hs.shape (by omega)
  refine ⟨sg, so, sc, h.row, h.le, fun k s hk => ?_, hs.lt sg hg, hl⟩
  obtain ⟨a, b⟩ := stC_at L k s hk
  refine ⟨hc _ _ a, ?_⟩
  rw [Nat.add_assoc]
  exact hc _ _ b
end
theorem eq2 (a b c d : Int) (r : Bool) (hr : decide (a = c ∧ b = d) = r) (w : World) : (Op.equalIn 10000 90 (.agg #[.int .i64 a, .int .i64 b]) (.agg #[.int .i64 c, .int .i64 d])).run Try.prog w = .ok r w := by
  have ha : ∀ (w : World), (part 3 #[Value.int .i64 a, .int .i64 b] 0).run Try.prog w = .ok (.int .i64 a) w := fun w => by simp [part, isAgg, run_underlying Try.underlying3]
  have hb : ∀ (w : World), (part 3 #[Value.int .i64 a, .int .i64 b] 1).run Try.prog w = .ok (.int .i64 b) w := fun w => by simp [part, isAgg, run_underlying Try.underlying3]
  have hc : ∀ (w : World), (part 3 #[Value.int .i64 c, .int .i64 d] 0).run Try.prog w = .ok (.int .i64 c) w := fun w => by simp [part, isAgg, run_underlying Try.underlying3]
  have hd : ∀ (w : World), (part 3 #[Value.int .i64 c, .int .i64 d] 1).run Try.prog w = .ok (.int .i64 d) w := fun w => by simp [part, isAgg, run_underlying Try.underlying3]
  have he : ∀ (x y : Int) (w : World), (Op.equalIn 9999 3 (.int .i64 x) (.int .i64 y)).run Try.prog w = .ok (x == y) w := fun x y w => run_equalIn_int w 9998 3 .i64 .i64 x y Try.underlying3
  subst hr
  rw [show (10000 : Nat) = 9999 + 1 from rfl, run_equalIn_agg w 9999 90 _ _ (by kernel_rfl) (by kernel_rfl)]
  simp only [Program.fieldsOf, Try.underlying90]
  simp [Op.eqFields, ha, hb, hc, hd, he]
  by_cases h1 : a = c <;> by_cases h2 : b = d <;> simp [h1, h2]
theorem len_nil (w : World) : Calls Try.prog 51 #[.pointer none] w fun e w' => e = .returned (.int .i64 0) ∧ w = w' := by
  go_enter Try.func51, Try.ntmps51
  go_wp2
  go_ret
  exact ⟨rfl, rfl⟩
theorem at_nil (k : Int) (hk : 0 ≤ k) (w : World) : Calls Try.prog 52 #[.pointer none, .int .i64 k] w fun e w' => e = .returned (.tuple #[.agg #[.int .i64 0, .int .i64 0], .bool false]) ∧ Below w.heap.size w w' := by
  go_enter Try.func52, Try.ntmps52
  go_wp2_with (go_at_call 51; refine (len_nil _).mono ?_; rintro e w' ⟨rfl, rfl⟩)
  exact bodyPost_ret (v := .tuple #[.agg #[.int .i64 0, .int .i64 0], .bool false]) (by simp [results, Try.results52, go_sem]) rfl ⟨rfl, by go_grown⟩
theorem find_nil (a b : Int) (w : World) : Calls Try.prog 55 #[.pointer none, .agg #[.int .i64 a, .int .i64 b]] w fun e w' => e = .returned (.int .i64 (-1)) ∧ Below w.heap.size w w' := by
  go_enter Try.func55, Try.ntmps55
  go_wp2
  go_ret
  exact ⟨rfl, by go_grown⟩
theorem query_nil (w : World) : Calls Try.prog 57 #[.pointer none] w fun e w' => e = .returned (.agg #[.slice none 0 0, .int .i64 0, .int .i64 0]) ∧ Below w.heap.size w w' := by
  go_enter Try.func57, Try.ntmps57
  go_wp2
  exact bodyPost_ret (v := .agg #[.slice none 0 0, .int .i64 0, .int .i64 0]) (by simp [results, Try.results57, go_sem]) rfl ⟨rfl, by go_grown⟩
theorem moves_nil (w : World) : Calls Try.prog 53 #[.pointer none, .int .i64 0] w fun e w' => e = .returned (.slice none 0 0) ∧ Below w.heap.size w w' := by
  go_enter Try.func53, Try.ntmps53
  go_wp2_with fail
  refine (at_nil 0 (by omega) _).mono ?_
  rintro e w1 ⟨rfl, hb⟩
  go_wp2
  go_ret
  exact ⟨rfl, hb.alloc hb.size _⟩
theorem ends_nil (w : World) : Calls Try.prog 56 #[.pointer none, .int .i64 0] w fun e w' => e = .returned (.bool false) ∧ Below w.heap.size w w' := by
  go_enter Try.func56, Try.ntmps56
  go_wp2_with fail
  refine (at_nil 0 (by omega) _).mono ?_
  rintro e w1 ⟨rfl, hb⟩
  go_wp2
  go_quiet (fail)
  go_wp2
  go_ret
  exact ⟨rfl, below_drewN (hb.alloc hb.size _) _⟩
section
variable (nb g o n c sg so sc : Nat) (win cap : Int) (E : Nat → ElV) (L : List (Int × Int)) (w : World) (h : NR w nb g o n c win cap E sg so sc L)
include h
theorem len_any : Calls Try.prog 51 #[.pointer (some ⟨nb, 0, none⟩)] w fun e w' => e = .returned (.int .i64 L.length) ∧ w = w' := by
  have c3 := h.c3
  clear h
  go_enter Try.func51, Try.ntmps51
  go_wp2
  go_ret
  exact ⟨rfl, rfl⟩
theorem at_yes (k : Nat) (s : Int × Int) (hk : L[k]? = some s) : Calls Try.prog 52 #[.pointer (some ⟨nb, 0, none⟩), .int .i64 k] w fun e w' => e = .returned (.tuple #[.agg #[.int .i64 s.1, .int .i64 s.2], .bool true]) ∧ Below w.heap.size w w' := by
  have H := Lib.hid (h.call ((Below.refl _ w).alloc (Nat.le_refl _) (.cells #[.int .i64 0, .int .i64 0] 90)))
  have c3 := h.c3
  obtain ⟨d0, d1⟩ := h.st k s hk
  have sl := h.sl
  have rl := h.row.lt
  have hkl : k < L.length := (List.getElem?_eq_some_iff.1 hk).1
  have hki : (k : Int) < (L.length : Int) := by omega
  have hln := h.ln
  clear h hk
  go_enter Try.func52, Try.ntmps52
  go_wp2_with (go_at_call 51; refine (len_any nb g o n c sg so sc win cap E L _ H.out).mono ?_; rintro e w' ⟨rfl, rfl⟩)
  exact bodyPost_ret (v := .tuple #[.agg #[.int .i64 s.1, .int .i64 s.2], .bool true]) (by simp [results, Try.results52, go_sem]) rfl ⟨rfl, by go_grown⟩
theorem at_no (k : Int) (hk : (L.length : Int) ≤ k) : Calls Try.prog 52 #[.pointer (some ⟨nb, 0, none⟩), .int .i64 k] w fun e w' => e = .returned (.tuple #[.agg #[.int .i64 0, .int .i64 0], .bool false]) ∧ Below w.heap.size w w' := by
  have H := Lib.hid (h.call ((Below.refl _ w).alloc (Nat.le_refl _) (.cells #[.int .i64 0, .int .i64 0] 90)))
  have hln := h.ln
  clear h
  go_enter Try.func52, Try.ntmps52
  go_wp2_with (go_at_call 51; refine (len_any nb g o n c sg so sc win cap E L _ H.out).mono ?_; rintro e w' ⟨rfl, rfl⟩)
  exact bodyPost_ret (v := .tuple #[.agg #[.int .i64 0, .int .i64 0], .bool false]) (by simp [results, Try.results52, go_sem]) rfl ⟨rfl, by go_grown⟩
end
end Go.Proofs.Ytjciilnbcmaikaa.Nf
