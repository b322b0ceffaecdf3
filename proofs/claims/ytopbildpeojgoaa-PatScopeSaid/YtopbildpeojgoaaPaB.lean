/- Queries, read: what is next, what must not be there, which is the last. -/
import Derived.Test.YtopbildpeojgoaaPaA
import Derived.Test.YtopbildpeojgoaaOpen
import Derived.BigQuiet
namespace Go.Proofs.Ytopbildpeojgoaa.Pa
open Go.RowKit Go.Proofs.Ytopbildpeojgoaa
set_option linter.unusedVariables false
set_option maxRecDepth 100000

def negs (E : Nat → ElV) : Nat → Bool := fun k => (E k).neg
set_option maxHeartbeats 2000000 in
theorem next_any (g o n c : Nat) (win cap at' : Int) (E : Nat → ElV) (w : World) (h : LE w g o n E) (hn : n ≤ 1000) (ha : -9223372036854775808 ≤ at' ∧ at' ≤ 9223372036854775807) :
    Calls Try.prog 108 #[.agg #[.slice (some ⟨g, o, none⟩) n c, .int .i64 win, .int .i64 cap], .int .i64 at'] w fun e w' => e = .returned (.int .i64 (nxt (negs E) at' n)) ∧ Below w.heap.size w w' := by
  have H := Lib.hid (h.alloc (.cells #[.slice (some ⟨g, o, none⟩) n c, .int .i64 win, .int .i64 cap] 67))
  have R := Lib.hid (Row.made w 67 #[.slice (some ⟨g, o, none⟩) n c, .int .i64 win, .int .i64 cap])
  have HB := Lib.hid ((Below.refl _ w).alloc (Nat.le_refl _) (.cells #[.slice (some ⟨g, o, none⟩) n c, .int .i64 win, .int .i64 cap] 67))
  have HBN := Lib.hid (behN_is n at')
  clear h
  go_enter Try.func108, Try.ntmps108
  go_wp2_with fail
  refine (behind_any _ n c win cap at' _ hn ha).mono ?_
  rintro e w1 ⟨rfl, hb⟩
  have H1 := Lib.hid (H.out.call hb)
  have R1 := Lib.hid (R.out.below hb R.out.lt)
  have HB1 := Lib.hid (HB.out.trans (hb.mono HB.out.size))
  clear hb H R HB
  have hbn : behN n at' ≤ n + 1 := by have := HBN.out; omega
  have c0 : w1.cell? ⟨w.heap.size, 0, none⟩ = some (.slice (some ⟨g, o, none⟩) n c) := R1.out.cell 0
  have HX : Hid (nxt (negs E) at' (min (behN n at') n) = -1) := by
    show _ = _
    refine (early (negs E) at' _ (fun j hj => ?_)).2.2
    have := HBN.out; omega
  go_wp2
  go_loop [5] (fun v => ∃ i : Nat, behN n at' ≤ i ∧ i ≤ n + 1 ∧ v = .int .i64 i ∧ Hid (nxt (negs E) at' (min i n) = -1)) (fun v => n + 1 - (intOf v).toNat)
  case atStart => exact ⟨_, Nat.le_refl _, hbn, rfl, HX⟩
  case round =>
    clear HX
    obtain ⟨i, hi, hi1, rfl, HX⟩ := hrel
    by_cases hlt : i < n
    · have hli : (i : Int) < (n : Int) := by omega
      have ha2 : at' < (i : Int) := by have := HBN.out; omega
      have hx : nxt (negs E) at' i = -1 := by have := HX.out; rw [Nat.min_eq_left (by omega)] at this; exact this
      have c2 := H1.out.neg hlt
      cases hng : (E i).neg with
      | true =>
        rw [hng] at c2
        have HX2 : Hid (nxt (negs E) at' (min (i + 1) n) = -1) := by
          show _ = _
          rw [Nat.min_eq_left (by omega)]
          simp only [nxt, hx]
          rw [if_neg (by unfold negs; simp [hng])]
        clear hx hng ha2 HX
        go_wp2
        go_round
        case rel => exact ⟨i + 1, by omega, by omega, by go_num, HX2⟩
        case measure => simp [intOf]; omega
      | false =>
        rw [hng] at c2
        have HX2 : Hid (nxt (negs E) at' n = (i : Int)) := (shut (negs E) at' ha2 hng hx n hlt).2.2
        clear hx hng ha2 HX
        go_wp2
        go_ret
        exact ⟨ret_int HX2.out.symm, HB1.out⟩
    · have hli : ¬ (i : Int) < (n : Int) := by omega
      have HX2 : Hid (nxt (negs E) at' n = -1) := by have := HX.out; rw [Nat.min_eq_right (by omega)] at this; exact this
      clear HX hlt
      go_wp2
      go_ret
      exact ⟨ret_int HX2.out.symm, HB1.out⟩
set_option maxHeartbeats 2000000 in
theorem last_any (g o n c : Nat) (win cap : Int) (E : Nat → ElV) (w : World) (h : LE w g o n E) (hn : n ≤ 1000) :
    Calls Try.prog 110 #[.agg #[.slice (some ⟨g, o, none⟩) n c, .int .i64 win, .int .i64 cap]] w fun e w' => e = .returned (.int .i64 (lst (negs E) n)) ∧ Below w.heap.size w w' := by
  have H := Lib.hid h
  clear h
  go_enter Try.func110, Try.ntmps110
  go_wp2
  go_loop [3] (fun v => ∃ i : Nat, i ≤ n ∧ v = .int .i64 ((i : Int) - 1) ∧ Hid (lst (negs E) n = lst (negs E) i)) (fun v => ((intOf v) + 1).toNat)
  case atStart => exact ⟨n, Nat.le_refl _, rfl, rfl⟩
  case round =>
    obtain ⟨i, hi, rfl, HX⟩ := hrel
    rcases Nat.eq_zero_or_pos i with rfl | hp
    · have HX2 : Hid (lst (negs E) n = -1) := HX.out
      clear HX
      have h0 : ¬ (0 : Int) ≤ ((0 : Nat) : Int) - 1 := by omega
      go_wp2
      go_ret
      exact ⟨ret_int (by have := HX2.out; omega), by go_grown⟩
    · obtain ⟨k, rfl⟩ : ∃ k, i = k + 1 := ⟨i - 1, by omega⟩
      rw [show ((k + 1 : Nat) : Int) - 1 = (k : Int) from by omega]
      have hki : (k : Int) < (n : Int) := by omega
      have c2 : (w.alloc (.cells #[.slice (some ⟨g, o, none⟩) n c, .int .i64 win, .int .i64 cap] 67)).cell? ⟨g, o + k * 6 + 2, none⟩ = some (.bool (E k).neg) := (H.out.alloc _).neg (by omega)
      have c3 : w.cell? ⟨g, o + k * 6 + 2, none⟩ = some (.bool (E k).neg) := H.out.neg (by omega)
      have gl := H.out.lt
      cases hng : (E k).neg with
      | true =>
        rw [hng] at c2 c3
        have HX2 : Hid (lst (negs E) n = lst (negs E) k) := HX.out.trans (lst_past (negs E) hng)
        clear HX hng
        go_wp2
        go_round
        case rel => exact ⟨k, by omega, rfl, HX2⟩
        case measure => simp [intOf]
      | false =>
        rw [hng] at c2 c3
        have HX2 : Hid (lst (negs E) n = (k : Int)) := HX.out.trans (lst_at (negs E) hng)
        clear HX hng
        go_wp2
        go_ret
        exact ⟨ret_int HX2.out.symm, by go_grown⟩
end Go.Proofs.Ytopbildpeojgoaa.Pa
