/- Queries, read: how many events a match has. -/
import Derived.Test.YtopbildpeojgoaaPaB
namespace Go.Proofs.Ytopbildpeojgoaa.Pa
open Go.RowKit Go.Proofs.Ytopbildpeojgoaa
set_option linter.unusedVariables false
set_option maxRecDepth 100000

theorem most_one (e : ElV) (w : World) : Calls Try.prog 112 #[.agg #[.string e.v, .slice e.tA e.tn e.tc, .bool e.neg, .int .i64 e.mn, .int .i64 e.mx, .slice e.pA e.pn e.pc]] w fun x w' => x = .returned (.int .i64 e.mx) ∧ Below w.heap.size w w' := by
  go_enter Try.func112, Try.ntmps112
  go_wp2
  go_ret
  exact ⟨rfl, by go_grown⟩
def mostS (E : Nat → ElV) : Nat → Int
  | 0 => 0
  | k + 1 => mostS E k + (if (E k).neg then 0 else (E k).mx)
theorem mostS_lo (E : Nat → ElV) (n : Nat) (hm : ∀ k, k < n → 0 ≤ (E k).mx ∧ (E k).mx ≤ 4) : ∀ k, k ≤ n → 0 ≤ mostS E k ∧ mostS E k ≤ 4 * k
  | 0, _ => by simp [mostS]
  | k + 1, hk => by have := mostS_lo E n hm k (by omega); have := hm k (by omega); simp only [mostS]; split <;> omega
set_option maxHeartbeats 2000000 in
theorem most_tog (g o n c : Nat) (win cap : Int) (E : Nat → ElV) (w : World) (h : LE w g o n E) (hn : n ≤ 1000) (hm : ∀ k, k < n → 0 ≤ (E k).mx ∧ (E k).mx ≤ 4) :
    Calls Try.prog 111 #[.agg #[.slice (some ⟨g, o, none⟩) n c, .int .i64 win, .int .i64 cap], .func (.func 112) #[] #[]] w fun x w' => x = .returned (.int .i64 (mostS E n)) ∧ Below w.heap.size w w' := by
  have H := Lib.hid h
  have HM := Lib.hid hm
  clear h hm
  go_enter Try.func111, Try.ntmps111
  go_wp2
  go_loopw [5, 11] (fun s i wr => ∃ k : Nat, k ≤ n ∧ i = .int .i64 k ∧ s = .int .i64 (mostS E k) ∧ Hid (Below w.heap.size w wr)) (fun _ i _ => n - (intOf i).toNat)
  case atStart => exact ⟨0, by omega, rfl, rfl, by show Below _ _ _; go_grown⟩
  case round =>
    obtain ⟨k, hk, rfl, rfl, HB⟩ := hrel
    obtain ⟨s0, s1⟩ := mostS_lo E n HM.out k hk
    by_cases hlt : k < n
    · have hli : (k : Int) < (n : Int) := by omega
      have HL := Lib.hid (H.out.call HB.out)
      obtain ⟨m0, m1⟩ := HM.out k hlt
      have d0 : wr.cell? ⟨g, o + k * 6, none⟩ = some (.string (E k).v) := HL.out.cell hlt (j := 0) (by omega)
      have d1 : wr.cell? ⟨g, o + k * 6 + 1, none⟩ = some (.slice (E k).tA (E k).tn (E k).tc) := HL.out.cell hlt (j := 1) (by omega)
      have d2 : wr.cell? ⟨g, o + k * 6 + 2, none⟩ = some (.bool (E k).neg) := HL.out.cell hlt (j := 2) (by omega)
      have d3 : wr.cell? ⟨g, o + k * 6 + 3, none⟩ = some (.int .i64 (E k).mn) := HL.out.cell hlt (j := 3) (by omega)
      have d4 : wr.cell? ⟨g, o + k * 6 + 4, none⟩ = some (.int .i64 (E k).mx) := HL.out.cell hlt (j := 4) (by omega)
      have d5 : wr.cell? ⟨g, o + k * 6 + 5, none⟩ = some (.slice (E k).pA (E k).pn (E k).pc) := HL.out.cell hlt (j := 5) (by omega)
      have gl := HL.out.lt
      have HB2 := Lib.hid (HB.out.alloc HB.out.size (.cells #[.string (E k).v, .slice (E k).tA (E k).tn (E k).tc, .bool (E k).neg, .int .i64 (E k).mn, .int .i64 (E k).mx, .slice (E k).pA (E k).pn (E k).pc] 73))
      have HX : Hid (mostS E (k + 1) = mostS E k + (if (E k).neg then 0 else (E k).mx)) := rfl
      cases hng : (E k).neg with
      | true =>
        rw [hng] at d2 HX HB2
        clear hng
        go_wp2
        go_roundw
        case measure => simp [intOf]; omega
        case rel => exact ⟨k + 1, by omega, by go_num, by rw [HX.out]; simp, HB2⟩
      | false =>
        have hone := most_one (E k)
        rw [hng] at d2 HX HB2 hone
        have HO := Lib.hid hone
        clear hng hone
        go_wp2_with fail
        refine (HO.out _).mono ?_
        rintro e w1 ⟨rfl, hb⟩
        have HB3 := Lib.hid (HB2.out.trans (hb.mono HB2.out.size))
        clear hb
        rcases (show (E k).mx = 4 ∨ (E k).mx < 4 from by omega) with h4 | h4
        all_goals
          go_wp2
          go_roundw
          case measure => simp [intOf]; omega
          case rel => exact ⟨k + 1, by omega, by go_num, by rw [HX.out]; simp; try omega, HB3⟩
    · obtain rfl : k = n := by omega
      go_wp2
      go_ret
      exact ⟨rfl, HB.out⟩
theorem most_any (g o n c : Nat) (win cap : Int) (E : Nat → ElV) (w : World) (h : LE w g o n E) (hn : n ≤ 1000) (hm : ∀ k, k < n → 0 ≤ (E k).mx ∧ (E k).mx ≤ 4) :
    Calls Try.prog 43 #[.agg #[.slice (some ⟨g, o, none⟩) n c, .int .i64 win, .int .i64 cap]] w fun x w' => x = .returned (.int .i64 (mostS E n)) ∧ Below w.heap.size w w' := by
  have H := Lib.hid h
  have HM := Lib.hid hm
  clear h hm
  go_enter Try.func43, Try.ntmps43
  go_wp2_with fail
  refine (most_tog g o n c win cap E _ (H.out.alloc _) hn HM.out).mono ?_
  rintro e w1 ⟨rfl, hb⟩
  have HB := Lib.hid (((Below.refl _ w).alloc (Nat.le_refl _) (.cells #[.slice (some ⟨g, o, none⟩) n c, .int .i64 win, .int .i64 cap] 67)).trans (hb.mono (by simp)))
  clear hb
  go_wp2
  go_ret
  exact ⟨rfl, HB.out⟩
theorem least_one (e : ElV) (w : World) : Calls Try.prog 113 #[.agg #[.string e.v, .slice e.tA e.tn e.tc, .bool e.neg, .int .i64 e.mn, .int .i64 e.mx, .slice e.pA e.pn e.pc]] w fun x w' => x = .returned (.int .i64 e.mn) ∧ Below w.heap.size w w' := by
  go_enter Try.func113, Try.ntmps113
  go_wp2
  go_ret
  exact ⟨rfl, by go_grown⟩
def leastS (E : Nat → ElV) : Nat → Int
  | 0 => 0
  | k + 1 => leastS E k + (if (E k).neg then 0 else (E k).mn)
theorem leastS_lo (E : Nat → ElV) (n : Nat) (hm : ∀ k, k < n → 0 ≤ (E k).mn ∧ (E k).mn ≤ 4) : ∀ k, k ≤ n → 0 ≤ leastS E k ∧ leastS E k ≤ 4 * k
  | 0, _ => by simp [leastS]
  | k + 1, hk => by have := leastS_lo E n hm k (by omega); have := hm k (by omega); simp only [leastS]; split <;> omega
set_option maxHeartbeats 2000000 in
theorem least_tog (g o n c : Nat) (win cap : Int) (E : Nat → ElV) (w : World) (h : LE w g o n E) (hn : n ≤ 1000) (hm : ∀ k, k < n → 0 ≤ (E k).mn ∧ (E k).mn ≤ 4) :
    Calls Try.prog 111 #[.agg #[.slice (some ⟨g, o, none⟩) n c, .int .i64 win, .int .i64 cap], .func (.func 113) #[] #[]] w fun x w' => x = .returned (.int .i64 (leastS E n)) ∧ Below w.heap.size w w' := by
  have H := Lib.hid h
  have HM := Lib.hid hm
  clear h hm
  go_enter Try.func111, Try.ntmps111
  go_wp2
  go_loopw [5, 11] (fun s i wr => ∃ k : Nat, k ≤ n ∧ i = .int .i64 k ∧ s = .int .i64 (leastS E k) ∧ Hid (Below w.heap.size w wr)) (fun _ i _ => n - (intOf i).toNat)
  case atStart => exact ⟨0, by omega, rfl, rfl, by show Below _ _ _; go_grown⟩
  case round =>
    obtain ⟨k, hk, rfl, rfl, HB⟩ := hrel
    obtain ⟨s0, s1⟩ := leastS_lo E n HM.out k hk
    by_cases hlt : k < n
    · have hli : (k : Int) < (n : Int) := by omega
      have HL := Lib.hid (H.out.call HB.out)
      obtain ⟨m0, m1⟩ := HM.out k hlt
      have d0 : wr.cell? ⟨g, o + k * 6, none⟩ = some (.string (E k).v) := HL.out.cell hlt (j := 0) (by omega)
      have d1 : wr.cell? ⟨g, o + k * 6 + 1, none⟩ = some (.slice (E k).tA (E k).tn (E k).tc) := HL.out.cell hlt (j := 1) (by omega)
      have d2 : wr.cell? ⟨g, o + k * 6 + 2, none⟩ = some (.bool (E k).neg) := HL.out.cell hlt (j := 2) (by omega)
      have d3 : wr.cell? ⟨g, o + k * 6 + 3, none⟩ = some (.int .i64 (E k).mn) := HL.out.cell hlt (j := 3) (by omega)
      have d4 : wr.cell? ⟨g, o + k * 6 + 4, none⟩ = some (.int .i64 (E k).mx) := HL.out.cell hlt (j := 4) (by omega)
      have d5 : wr.cell? ⟨g, o + k * 6 + 5, none⟩ = some (.slice (E k).pA (E k).pn (E k).pc) := HL.out.cell hlt (j := 5) (by omega)
      have gl := HL.out.lt
      have HB2 := Lib.hid (HB.out.alloc HB.out.size (.cells #[.string (E k).v, .slice (E k).tA (E k).tn (E k).tc, .bool (E k).neg, .int .i64 (E k).mn, .int .i64 (E k).mx, .slice (E k).pA (E k).pn (E k).pc] 73))
      have HX : Hid (leastS E (k + 1) = leastS E k + (if (E k).neg then 0 else (E k).mn)) := rfl
      cases hng : (E k).neg with
      | true =>
        rw [hng] at d2 HX HB2
        clear hng
        go_wp2
        go_roundw
        case measure => simp [intOf]; omega
        case rel => exact ⟨k + 1, by omega, by go_num, by rw [HX.out]; simp, HB2⟩
      | false =>
        have hone := least_one (E k)
        rw [hng] at d2 HX HB2 hone
        have HO := Lib.hid hone
        clear hng hone
        go_wp2_with fail
        refine (HO.out _).mono ?_
        rintro e w1 ⟨rfl, hb⟩
        have HB3 := Lib.hid (HB2.out.trans (hb.mono HB2.out.size))
        clear hb
        rcases (show (E k).mn = 4 ∨ (E k).mn < 4 from by omega) with h4 | h4
        all_goals
          go_wp2
          go_roundw
          case measure => simp [intOf]; omega
          case rel => exact ⟨k + 1, by omega, by go_num, by rw [HX.out]; simp; try omega, HB3⟩
    · obtain rfl : k = n := by omega
      go_wp2
      go_ret
      exact ⟨rfl, HB.out⟩
theorem least_any (g o n c : Nat) (win cap : Int) (E : Nat → ElV) (w : World) (h : LE w g o n E) (hn : n ≤ 1000) (hm : ∀ k, k < n → 0 ≤ (E k).mn ∧ (E k).mn ≤ 4) :
    Calls Try.prog 44 #[.agg #[.slice (some ⟨g, o, none⟩) n c, .int .i64 win, .int .i64 cap]] w fun x w' => x = .returned (.int .i64 (leastS E n)) ∧ Below w.heap.size w w' := by
  have H := Lib.hid h
  have HM := Lib.hid hm
  clear h hm
  go_enter Try.func44, Try.ntmps44
  go_wp2_with fail
  refine (least_tog g o n c win cap E _ (H.out.alloc _) hn HM.out).mono ?_
  rintro e w1 ⟨rfl, hb⟩
  have HB := Lib.hid (((Below.refl _ w).alloc (Nat.le_refl _) (.cells #[.slice (some ⟨g, o, none⟩) n c, .int .i64 win, .int .i64 cap] 67)).trans (hb.mono (by simp)))
  clear hb
  go_wp2
  go_ret
  exact ⟨rfl, HB.out⟩
end Go.Proofs.Ytopbildpeojgoaa.Pa
