/- Queries, read: what is next, what must not be there, which is the last. -/
import Derived.Test.YtaimbkikiokenaaPaA
import Derived.Test.YtaimbkikiokenaaOpen
import Derived.BigQuiet
namespace Go.Proofs.Ytaimbkikiokenaa.Pa
open Go.RowKit Go.Proofs.Ytaimbkikiokenaa
set_option linter.unusedVariables false
set_option maxRecDepth 100000

def negs (E : Nat → ElV) : Nat → Bool := fun k => (E k).neg
set_option maxHeartbeats 2000000 in
theorem next_any (g o n c : Nat) (win cap at' : Int) (E : Nat → ElV) (w : World) (h : LE w g o n E) (hn : n ≤ 1000) (ha : -9223372036854775808 ≤ at' ∧ at' ≤ 9223372036854775807) :
    Calls Try.prog 71 #[.agg #[.slice (some ⟨g, o, none⟩) n c, .int .i64 win, .int .i64 cap], .int .i64 at'] w fun e w' => e = .returned (.int .i64 (nxt (negs E) at' n)) ∧ Below w.heap.size w w' := by
  have H := Lib.hid (h.alloc (.cells #[.slice (some ⟨g, o, none⟩) n c, .int .i64 win, .int .i64 cap] 44))
  have R := Lib.hid (Row.made w 44 #[.slice (some ⟨g, o, none⟩) n c, .int .i64 win, .int .i64 cap])
  have HB := Lib.hid ((Below.refl _ w).alloc (Nat.le_refl _) (.cells #[.slice (some ⟨g, o, none⟩) n c, .int .i64 win, .int .i64 cap] 44))
  have HBN := Lib.hid (behN_is n at')
  clear h
  go_enter Try.func71, Try.ntmps71
  go_wp2_with fail
  refine (behind_any _ n c win cap at' _ hn ha).mono ?_
  rintro e w1 ⟨rfl, hb⟩
  have H1 := Lib.hid (H.out.call hb)
  have R1 := Lib.hid (R.out.below hb R.out.lt)
  have HB1 := Lib.hid (HB.out.trans (hb.mono HB.out.size))
  clear hb H R HB
  have hbn : behN n at' ≤ n + 1 := by have := HBN.out; omega
  have c0 : w1.cell? ⟨w.heap.size, 0, none⟩ = some (.slice (some ⟨g, o, none⟩) n c) := R1.out.cell 0
  have HX : Hid (nxt (negs E) at' (min (behN n at') n) = -1) := by
    show _ = _
    refine (early (negs E) at' _ (fun j hj => ?_)).2.2
    have := HBN.out; omega
  go_wp2
  go_loop [5] (fun v => ∃ i : Nat, behN n at' ≤ i ∧ i ≤ n + 1 ∧ v = .int .i64 i ∧ Hid (nxt (negs E) at' (min i n) = -1)) (fun v => n + 1 - (intOf v).toNat)
  case atStart => exact ⟨_, Nat.le_refl _, hbn, rfl, HX⟩
  case round =>
    clear HX
    obtain ⟨i, hi, hi1, rfl, HX⟩ := hrel
    by_cases hlt : i < n
    · have hli : (i : Int) < (n : Int) := by omega
      have ha2 : at' < (i : Int) := by have := HBN.out; omega
      have hx : nxt (negs E) at' i = -1 := by have := HX.out; rw [Nat.min_eq_left (by omega)] at this; exact this
      have c2 := H1.out.neg hlt
      cases hng : (E i).neg with
      | true =>
        rw [hng] at c2
        have HX2 : Hid (nxt (negs E) at' (min (i + 1) n) = -1) := by
          show _ = _
          rw [Nat.min_eq_left (by omega)]
          simp only [nxt, hx]
          rw [if_neg (by unfold negs; simp [hng])]
        clear hx hng ha2 HX
        go_wp2
        go_round
        case rel => exact ⟨i + 1, by omega, by omega, by go_num, HX2⟩
        case measure => simp [intOf]; omega
      | false =>
        rw [hng] at c2
        have HX2 : Hid (nxt (negs E) at' n = (i : Int)) := (shut (negs E) at' ha2 hng hx n hlt).2.2
        clear hx hng ha2 HX
        go_wp2
        go_ret
        exact ⟨ret_int HX2.out.symm, HB1.out⟩
    · have hli : ¬ (i : Int) < (n : Int) := by omega
      have HX2 : Hid (nxt (negs E) at' n = -1) := by have := HX.out; rw [Nat.min_eq_right (by omega)] at this; exact this
      clear HX hlt
      go_wp2
      go_ret
      exact ⟨ret_int HX2.out.symm, HB1.out⟩
end Go.Proofs.Ytaimbkikiokenaa.Pa
