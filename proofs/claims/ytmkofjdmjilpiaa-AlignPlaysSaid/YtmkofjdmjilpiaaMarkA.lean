/- Marks: where they are, whether a time has passed, and how they go on. -/
import Derived.Test.YtmkofjdmjilpiaaTab
namespace Go.Proofs.Ytmkofjdmjilpiaa.Mark
open Go.RowKit Go.Proofs.Ytmkofjdmjilpiaa
set_option linter.unusedVariables false

def timeB (t : Int) : Bool := decide (0 ≤ t ∧ t ≤ 1099511627776)
theorem time_any (t : Int) (w : World) : Calls Try.prog 60 #[.int .i64 t] w fun e w' => e = .returned (.bool (timeB t)) ∧ w = w' := by
  rcases (show (t < 0 ∧ timeB t = false) ∨ (0 ≤ t ∧ t ≤ 1099511627776 ∧ timeB t = true) ∨ (0 ≤ t ∧ 1099511627776 < t ∧ timeB t = false) from by
    unfold timeB; simp only [decide_eq_true_eq, decide_eq_false_iff_not]; omega) with ⟨a, e⟩ | ⟨a, b, e⟩ | ⟨a, b, e⟩
  all_goals
    rw [e]
    clear e
    go_enter Try.func60, Try.ntmps60
    go_wp2
    go_ret
    first | exact ⟨rfl, rfl⟩ | exact ⟨ret_bool (by simp; omega), rfl⟩
theorem time_is (t : Int) (r : Bool) (w : World) (hr : timeB t = r) : Calls Try.prog 60 #[.int .i64 t] w fun e w' => e = .returned (.bool r) ∧ w = w' := by subst hr; exact time_any t w
theorem at_any (m : Int) (w : World) (h0 : 0 ≤ m) (h1 : m ≤ 9223372036854775807) :
    Calls Try.prog 21 #[.agg #[.int .i64 m]] w fun e w' => e = .returned (.int .i64 (m - 1)) ∧ Below w.heap.size w w' := by
  go_enter Try.func21, Try.ntmps21
  go_wp2
  go_ret
  exact ⟨rfl, (Below.refl _ w).alloc (Nat.le_refl _) _⟩
theorem late_any (m t : Int) (w : World) (h0 : 0 ≤ m) (h1 : m ≤ 9223372036854775807) :
    Calls Try.prog 22 #[.agg #[.int .i64 m], .int .i64 t] w fun e w' => e = .returned (.bool (decide (t ≤ m - 1))) ∧ Below w.heap.size w w' := by
  go_enter Try.func22, Try.ntmps22
  go_wp2_with fail
  refine (at_any m _ h0 h1).mono ?_
  rintro e w1 ⟨rfl, hb⟩
  go_wp2
  go_ret
  exact ⟨rfl, ((Below.refl _ w).alloc (Nat.le_refl _) _).trans (hb.mono (by simp))⟩
theorem late_is (m t : Int) (r : Bool) (w : World) (h0 : 0 ≤ m) (h1 : m ≤ 9223372036854775807) (hr : decide (t ≤ m - 1) = r) :
    Calls Try.prog 22 #[.agg #[.int .i64 m], .int .i64 t] w fun e w' => e = .returned (.bool r) ∧ Below w.heap.size w w' := by subst hr; exact late_any m t w h0 h1
/-- How a mark goes on to a time: where it is then (by the first time that has not passed), and what is told. -/
structure ToR (m t m' e : Int) : Prop where
  h : (timeB t = false ∧ m = m' ∧ e = 12) ∨ (timeB t = true ∧ t ≤ m - 1 ∧ m = m' ∧ e = 7) ∨ (timeB t = true ∧ m - 1 < t ∧ m' = t + 1 ∧ e = 0)
theorem to_is (m t m' e : Int) (w : World) (h0 : 0 ≤ m) (h1 : m ≤ 9223372036854775807) (hr : ToR m t m' e) :
    Calls Try.prog 20 #[.agg #[.int .i64 m], .int .i64 t] w fun x w' => x = .returned (.tuple #[.agg #[.int .i64 m'], .int .i64 e]) ∧ Below w.heap.size w w' := by
  obtain ⟨⟨a, rfl, rfl⟩ | ⟨a, b, rfl, rfl⟩ | ⟨a, b, rfl, rfl⟩⟩ := hr
  · have HA := Lib.hid a
    clear a
    go_enter Try.func20, Try.ntmps20
    go_wp2_with (go_at_call 60; refine (time_is _ false _ HA.out).mono ?_; rintro e w' ⟨rfl, rfl⟩)
    exact bodyPost_ret (v := .tuple #[.agg #[.int .i64 m], .int .i64 12]) (by simp [results, Try.results20, go_sem]) rfl ⟨rfl, by go_grown⟩
  · have HA := Lib.hid a
    clear a
    have hd : decide (t ≤ m - 1) = true := by simpa using b
    have HD := Lib.hid hd
    clear hd
    go_enter Try.func20, Try.ntmps20
    go_wp2_with fail
    refine (time_is _ true _ HA.out).mono ?_
    rintro e w' ⟨rfl, rfl⟩
    go_wp2_with fail
    refine (late_is m t true _ h0 h1 HD.out).mono ?_
    rintro e w1 ⟨rfl, hb⟩
    obtain ⟨hc, hf⟩ := bcell hb
    have hz := hb.size
    simp at hz
    go_wp2
    exact bodyPost_ret (v := .tuple #[.agg #[.int .i64 m], .int .i64 7]) (by simp [results, Try.results20, go_sem, hc]) rfl ⟨rfl, ((((Below.refl _ w).alloc (Nat.le_refl _) _).alloc (by simp) _).trans (hb.mono (by simp; omega))).setCell (by simp) _⟩
  · have HA := Lib.hid a
    clear a
    have hd : decide (t ≤ m - 1) = false := by simp; omega
    have HD := Lib.hid hd
    clear hd
    have ht : 0 ≤ t ∧ t ≤ 1099511627776 := by have := HA.out; unfold timeB at this; simpa using this
    go_enter Try.func20, Try.ntmps20
    go_wp2_with fail
    refine (time_is _ true _ HA.out).mono ?_
    rintro e w' ⟨rfl, rfl⟩
    go_wp2_with fail
    refine (late_is m t false _ h0 h1 HD.out).mono ?_
    rintro e w1 ⟨rfl, hb⟩
    obtain ⟨hc, hf⟩ := bcell hb
    have hz := hb.size
    simp at hz
    go_wp2
    exact bodyPost_ret (v := .tuple #[.agg #[.int .i64 (t + 1)], .int .i64 0]) (by simp [results, Try.results20, go_sem, hc]) rfl ⟨rfl, ((((Below.refl _ w).alloc (Nat.le_refl _) _).alloc (by simp) _).trans (hb.mono (by simp; omega))).setCell (by simp) _⟩
set_option maxHeartbeats 400000 in
theorem awake_any (w : World) : Calls Try.prog 23 #[] w fun e w' => e = .returned (.bool true) ∧ Below w.heap.size w w' := by
  go_enter Try.func23, Try.ntmps23
  go_wp2_with fail
  refine (to_is 0 5 6 0 _ (by decide) (by decide) ⟨.inr (.inr ⟨rfl, by decide, rfl, rfl⟩)⟩).mono ?_
  rintro e w1 ⟨rfl, hb⟩
  have M := Lib.hid (((Own.start w).made _ _).call hb)
  have c0 := (M.out.row 0 rfl).c0
  clear hb
  go_wp2_with fail
  refine (to_is 6 5 6 7 _ (by decide) (by decide) ⟨.inr (.inl ⟨rfl, by decide, rfl, rfl⟩)⟩).mono ?_
  rintro e w2 ⟨rfl, hb⟩
  clear c0
  have M := Lib.hid ((M.out.made _ _).call hb)
  have c0 := (M.out.row 1 rfl).c0
  have c1 := (M.out.row 0 rfl).c0
  have l0 := M.out.lt 1 rfl
  have l1 := M.out.lt 0 rfl
  clear hb
  go_wp2_with fail
  refine (at_any 0 _ (by decide) (by decide)).mono ?_
  rintro e w' ⟨rfl, hb⟩
  have M := Lib.hid ((M.out.made _ _).call hb)
  clear hb c0 c1 l0 l1
  have c0 := (M.out.row 2 rfl).c0
  have c1 := (M.out.row 1 rfl).c0
  have l0 := M.out.lt 2 rfl
  have l1 := M.out.lt 1 rfl
  go_wp2_with fail
  refine (at_any 6 _ (by decide) (by decide)).mono ?_
  rintro e w' ⟨rfl, hb⟩
  have M := Lib.hid ((M.out).call hb)
  clear hb c0 c1 l0 l1
  have c0 := (M.out.row 2 rfl).c0
  have c1 := (M.out.row 1 rfl).c0
  have l0 := M.out.lt 2 rfl
  have l1 := M.out.lt 1 rfl
  go_wp2_with fail
  refine (late_is 6 5 true _ (by decide) (by decide) rfl).mono ?_
  rintro e w' ⟨rfl, hb⟩
  have M := Lib.hid ((M.out).call hb)
  clear hb c0 c1 l0 l1
  have c0 := (M.out.row 2 rfl).c0
  have c1 := (M.out.row 1 rfl).c0
  have l0 := M.out.lt 2 rfl
  have l1 := M.out.lt 1 rfl
  go_wp2_with fail
  refine (late_is 6 6 false _ (by decide) (by decide) rfl).mono ?_
  rintro e w' ⟨rfl, hb⟩
  have M := Lib.hid ((M.out).call hb)
  clear hb c0 c1 l0 l1
  have c0 := (M.out.row 2 rfl).c0
  have c1 := (M.out.row 1 rfl).c0
  have l0 := M.out.lt 2 rfl
  have l1 := M.out.lt 1 rfl
  go_wp2
  go_ret
  exact ⟨rfl, M.out.be⟩
end Go.Proofs.Ytmkofjdmjilpiaa.Mark
