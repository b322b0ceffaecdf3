/- The walk of the law MarkGoes. -/
import Derived.Test.YtmkofjdmjilpiaaMarkA
import Derived.Test.YtmkofjdmjilpiaaBits
import Derived.Deep.DeepCutAuto
namespace Go.Proofs.Ytmkofjdmjilpiaa.Mark
open Go.RowKit Go.Proofs.Ytmkofjdmjilpiaa
set_option linter.unusedVariables false

theorem i64_of {k : IntKind} {a b : Int} (h : a = b) : Value.int k a = .int k b := by rw [h]
theorem toR_cases (m x : Int) : (x < 0 ∧ ToR m x m 12) ∨ (0 ≤ x ∧ 1099511627776 < x ∧ ToR m x m 12) ∨ (0 ≤ x ∧ x ≤ 1099511627776 ∧ x ≤ m - 1 ∧ ToR m x m 7) ∨ (0 ≤ x ∧ x ≤ 1099511627776 ∧ m - 1 < x ∧ ToR m x (x + 1) 0) := by
  by_cases h1 : x < 0
  · exact .inl ⟨h1, ⟨.inl ⟨by unfold timeB; simp; omega, rfl, rfl⟩⟩⟩
  by_cases h2 : 1099511627776 < x
  · exact .inr (.inl ⟨by omega, h2, ⟨.inl ⟨by unfold timeB; simp; omega, rfl, rfl⟩⟩⟩)
  have ht : timeB x = true := by unfold timeB; simp; omega
  by_cases h3 : x ≤ m - 1
  · exact .inr (.inr (.inl ⟨by omega, by omega, h3, ⟨.inr (.inl ⟨ht, h3, rfl, rfl⟩)⟩⟩))
  · exact .inr (.inr (.inr ⟨by omega, by omega, by omega, ⟨.inr (.inr ⟨ht, by omega, rfl, rfl⟩)⟩⟩))
set_option maxRecDepth 100000 in
set_option maxHeartbeats 4000000 in
theorem goes_law (A : Option Addr) (n c : Nat) (f : Nat → Int) (ln : n ≤ c) (lc : c ≤ 9223372036854775807) (lb : ∀ k, -9223372036854775808 ≤ f k ∧ f k ≤ 9223372036854775807) {w : World} (lies : Lies w w.heap.size A n (fun k => .int .i64 (f k)))
    (t : Int) (wt : (Lit.int .i64 t).wf = true) :
    Calls Try.prog 5 #[.slice A n c, .int .i64 t] w fun e w' => e = .returned (.bool true) ∧ Below w.heap.size w w' := by
  clear wt
  have HL := Lib.hid lies
  have HLB := Lib.hid lb
  clear lies lb
  go_enter Try.func5, Try.ntmps5
  go_wp2
  go_loopw [6, 7] (fun a i wr => ∃ (k : Nat) (m : Int), k ≤ n ∧ 0 ≤ m ∧ m ≤ 1099511627777 ∧ i = .int .i64 k ∧ a = .int .i64 (m - 1) ∧ Hid (Own w wr [(w.heap.size, 33, #[.int .i64 m])])) (fun _ i _ => n - (intOf i).toNat)
  case atStart => exact ⟨0, 0, by omega, by omega, by omega, rfl, rfl, (Own.start w).made _ _⟩
  case round =>
    obtain ⟨k, m, hk, m0, m1, rfl, rfl, M⟩ := hrel
    by_cases hlt : k < n ∧ k < 30
    · obtain ⟨hkn, hk30⟩ := hlt
      have e30 : decide ((k : Int) < 30) = true := by simp; omega
      obtain ⟨g, o, rfl, hg, hc⟩ := HL.out k hkn
      have hck : wr.cell? ⟨g, o + k, none⟩ = some (.int .i64 (f k)) := (M.out.be.cell (p := ⟨g, o + k, none⟩) hg).trans hc
      obtain ⟨b0, b1⟩ := HLB.out k
      clear hc
      go_upto_if 28 with fail
      go_cut [8] (fun s8 wx => ∃ x : Int, s8 = .int .i64 x ∧ -9223372036854775808 ≤ x ∧ x ≤ 9223372036854775807 ∧ wr = wx)
      case first =>
        have h63 := and63 (f k)
        by_cases hb : 0 < bits BinOp.and IntKind.i64 (k : Int) 3
        all_goals
          go_wp2
          go_meet
        · exact ⟨_, rfl, by omega, by omega, rfl⟩
        · exact ⟨_, rfl, by omega, by omega, rfl⟩
      case rest =>
        obtain ⟨x, rfl, x0, x1, rfl⟩ := hcut
        clear hck b0 b1
        have c0 := (M.out.row 0 rfl).c0
        have f0 := (M.out.row 0 rfl).f0
        have l0 := M.out.lt 0 rfl
        rcases toR_cases m x with ⟨g0, hr⟩ | ⟨g0, g1, hr⟩ | ⟨g0, g1, g2, hr⟩ | ⟨g0, g1, g2, hr⟩
        all_goals
          have HR := Lib.hid hr
          clear hr
          go_wp2_with fail
          refine (to_is m x _ _ _ m0 (by omega) HR.out).mono ?_
          rintro e w1 ⟨rfl, hb⟩
          clear c0 f0 l0
          have c0 := ((M.out.call hb).row 0 rfl).c0
          have f0 := ((M.out.call hb).row 0 rfl).f0
          have l0 := (M.out.call hb).lt 0 rfl
          go_wp2_with fail
          refine (at_any _ _ (by omega) (by omega)).mono ?_
          rintro e w2 ⟨rfl, hb2⟩
          have M2 := Lib.hid ((((M.out.call hb).put 0 rfl 0 _).alloc _).call hb2)
          clear hb hb2 c0 f0 l0
          have c0 := (M2.out.row 0 rfl).c0
          go_wp2_with fail
          refine (late_any _ t _ (by omega) (by omega)).mono ?_
          rintro e w3 ⟨rfl, hb⟩
          have M3 := Lib.hid (M2.out.call hb)
          clear hb c0
          have c0 := (M3.out.row 0 rfl).c0
          go_wp2_with fail
          refine (late_any _ x _ (by omega) (by omega)).mono ?_
          rintro e w4 ⟨rfl, hb⟩
          have M4 := Lib.hid (M3.out.call hb)
          clear hb c0
          go_wp2
          go_roundw
          case measure => simp [intOf]; omega
          case rel => exact ⟨k + 1, _, by omega, by omega, by omega, by go_num, i64_of (by omega), M4⟩
    · by_cases hkn : k < n
      all_goals
        try have e30 : decide ((k : Int) < 30) = false := by simp; omega
        go_wp2_with fail
        refine (awake_any _).mono ?_
        rintro e w1 ⟨rfl, hb⟩
        go_wp2
        go_ret
        exact ⟨rfl, (M.out.call hb).be⟩
end Go.Proofs.Ytmkofjdmjilpiaa.Mark
