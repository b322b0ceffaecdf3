/- Counts: one more is counted; all together; they are read one by one. -/
import Derived.Test.YtjciilnbcmaikaaCoB
namespace Go.Proofs.Ytjciilnbcmaikaa.Co
open Go.RowKit Go.Proofs.Ytjciilnbcmaikaa
set_option linter.unusedVariables false
set_option maxRecDepth 100000

theorem row6_put {w : World} {b : Nat} {t : TypeId} {c0 c1 c2 c3 c4 c5 : Value} (h : Row w b t #[c0, c1, c2, c3, c4, c5]) (v0 v1 v2 v3 v4 v5 : Value) :
    Row ((((((w.setCell ⟨b, 0, none⟩ v0).setCell ⟨b, 1, none⟩ v1).setCell ⟨b, 2, none⟩ v2).setCell ⟨b, 3, none⟩ v3).setCell ⟨b, 4, none⟩ v4).setCell ⟨b, 5, none⟩ v5) b t #[v0, v1, v2, v3, v4, v5] :=
  ((((((h.put 0 v0).put 1 v1).put 2 v2).put 3 v3).put 4 v4).put 5 v5)
theorem eq6 (a0 a1 a2 a3 a4 a5 : Int) (w : World) :
    (Op.equalIn 10000 26 (.agg #[.int .i64 a0, .int .i64 a1, .int .i64 a2, .int .i64 a3, .int .i64 a4, .int .i64 a5]) (.agg #[.int .i64 a0, .int .i64 a1, .int .i64 a2, .int .i64 a3, .int .i64 a4, .int .i64 a5])).run Try.prog w = .ok true w := by
  have hsz : ∀ w, (sizeOf 2).run Try.prog w = .ok 1 w := fun _ => by kernel_rfl
  have he : Try.prog.underlying 2 = some (.int .i64) := Try.underlying2
  rw [show (10000 : Nat) = 9998 + 2 from rfl, Op.equalIn]
  simp only [Sem.run_bind, run_underlying Try.underlying26, Result.andThen_ok, hsz, Std.Legacy.Range.forIn_eq_forIn_range', Std.Legacy.Range.size, Nat.sub_zero, Nat.add_sub_cancel, Nat.div_one]
  have pe : ∀ (a : Int) (w : World), (Op.equalIn (9998 + 1) 2 (.int .i64 a) (.int .i64 a)).run Try.prog w = .ok true w := fun a w => by
    rw [run_equalIn_int w 9998 _ .i64 .i64 a a he]; simp
  have px : ∀ (i : Nat) (v : Int) (w : World), #[Value.int .i64 a0, .int .i64 a1, .int .i64 a2, .int .i64 a3, .int .i64 a4, .int .i64 a5][i]? = some (.int .i64 v) → (part 2 #[.int .i64 a0, .int .i64 a1, .int .i64 a2, .int .i64 a3, .int .i64 a4, .int .i64 a5] (i * 1)).run Try.prog w = .ok (.int .i64 v) w := fun i v w h => by
    simp [part, isAgg, run_underlying he, h]
  rw [show List.range' 0 6 1 = [0, 1, 2, 3, 4, 5] from rfl]
  simp only [List.forIn_cons, List.forIn_nil, Sem.run_bind, px 0 a0 _ rfl, px 1 a1 _ rfl, px 2 a2 _ rfl, px 3 a3 _ rfl, px 4 a4 _ rfl, px 5 a5 _ rfl, pe, Result.andThen_ok, Bool.not_true, Bool.false_eq_true, if_false, Sem.run_pure]
theorem Cs.drew {w : World} {b mb N : Nat} {f : Nat → Nat → Int} (h : Cs w b mb N f) : Cs w.drew b mb N f := ⟨h.row, h.tab, h.ne, h.n1, h.lo⟩
theorem Turns.drew {w w1 : World} {S : Nat → Prop} (h : Turns w w1 S) : Turns w w1.drew S := h.trans (Turns.of_grown (grown_drew w1 none)) (fun _ _ e => by cases e)
/-- What the first p counted of a kind. -/
def sm (f : Nat → Nat → Int) (k : Nat) : Nat → Int
  | 0 => 0
  | p + 1 => sm f k p + f p k
theorem sm_lo (f : Nat → Nat → Int) (h : ∀ p k, 0 ≤ f p k ∧ f p k ≤ 1000) (k : Nat) : ∀ p, 0 ≤ sm f k p ∧ sm f k p ≤ 1000 * p
  | 0 => ⟨Int.le_refl _, by simp [sm]⟩
  | p + 1 => by have := sm_lo f h k p; have := h p k; simp only [sm]; omega
theorem sum_nil (w : World) : Calls Try.prog 19 #[.pointer none] w fun e w' => e = .returned (.agg #[.int .i64 0, .int .i64 0, .int .i64 0, .int .i64 0, .int .i64 0, .int .i64 0]) ∧ Below w.heap.size w w' := by
  go_enter Try.func19, Try.ntmps19
  go_wp2_with (go_at_call 20; refine (len_nil _).mono ?_; rintro e w' ⟨rfl, rfl⟩)
  refine wp_loop_rounds 1 ?_
  rw [rounds_succ]
  go_wp2
  exact bodyPost_ret (v := .agg #[.int .i64 0, .int .i64 0, .int .i64 0, .int .i64 0, .int .i64 0, .int .i64 0]) (by simp [results, Try.results19, go_sem]) rfl ⟨rfl, by go_grown⟩
theorem of_nil (w : World) (p : Int) : Calls Try.prog 17 #[.pointer none, .int .i64 p] w fun e w' => e = .returned (.agg #[.int .i64 0, .int .i64 0, .int .i64 0, .int .i64 0, .int .i64 0, .int .i64 0]) ∧ Below w.heap.size w w' := by
  rcases (show p < 0 ∨ 0 ≤ p from by omega) with hp | hp
  all_goals
    go_enter Try.func17, Try.ntmps17
    go_wp2_with (go_at_call 20; refine (len_nil _).mono ?_; rintro e w' ⟨rfl, rfl⟩)
    exact bodyPost_ret (v := .agg #[.int .i64 0, .int .i64 0, .int .i64 0, .int .i64 0, .int .i64 0, .int .i64 0]) (by simp [results, Try.results17, go_sem]) rfl ⟨rfl, by go_grown⟩
section
variable (b mb N : Nat) (f : Nat → Nat → Int) (w : World) (h : Cs w b mb N f)
include h
theorem of_no (p : Int) (hp : p < 0 ∨ (N : Int) ≤ p) : Calls Try.prog 17 #[.pointer (some ⟨b, 0, none⟩), .int .i64 p] w
    fun e w' => e = .returned (.agg #[.int .i64 0, .int .i64 0, .int .i64 0, .int .i64 0, .int .i64 0, .int .i64 0]) ∧ Below w.heap.size w w' := by
  have H := Lib.hid (h.alloc (.cells #[.int .i64 0, .int .i64 0, .int .i64 0, .int .i64 0, .int .i64 0, .int .i64 0] 26))
  obtain ⟨hn1, hn2⟩ := h.n1
  clear h
  rcases (show p < 0 ∨ (0 ≤ p ∧ (N : Int) ≤ p) from by omega) with hp0 | ⟨hp0, hp1⟩
  all_goals
    clear hp
    go_enter Try.func17, Try.ntmps17
    go_wp2_with (go_at_call 20; refine (len_any b mb N f _ H.out).mono ?_; rintro e w' ⟨rfl, rfl⟩)
    exact bodyPost_ret (v := .agg #[.int .i64 0, .int .i64 0, .int .i64 0, .int .i64 0, .int .i64 0, .int .i64 0]) (by simp [results, Try.results17, go_sem]) rfl ⟨rfl, by go_grown⟩
theorem add_no (p k : Int) (hp : p < 0 ∨ (N : Int) ≤ p ∨ k < 0 ∨ 6 ≤ k) : Calls Try.prog 16 #[.pointer (some ⟨b, 0, none⟩), .int .i64 p, .int .i64 k] w
    fun e w' => e = .returned (.bool false) ∧ w = w' := by
  have H := Lib.hid h
  obtain ⟨hn1, hn2⟩ := h.n1
  clear h
  rcases (show p < 0 ∨ (0 ≤ p ∧ (N : Int) ≤ p) ∨ (0 ≤ p ∧ p < (N : Int) ∧ k < 0) ∨ (0 ≤ p ∧ p < (N : Int) ∧ 0 ≤ k ∧ 6 ≤ k) from by omega) with hp0 | ⟨hp0, hp1⟩ | ⟨hp0, hp1, hp2⟩ | ⟨hp0, hp1, hp2, hp3⟩
  all_goals
    clear hp
    go_enter Try.func16, Try.ntmps16
    go_wp2_with (go_at_call 20; refine (len_any b mb N f _ H.out).mono ?_; rintro e w' ⟨rfl, rfl⟩)
    go_ret
    exact ⟨rfl, rfl⟩
set_option maxHeartbeats 1000000 in
theorem add_yes (p k : Nat) (hp : p < N) (hk : k < 6) (hv : f p k + 1 ≤ 1000) : Calls Try.prog 16 #[.pointer (some ⟨b, 0, none⟩), .int .i64 p, .int .i64 k] w
    fun e w' => e = .returned (.bool true) ∧ Cs w' b mb N (up2 f p k (f p k + 1)) ∧ Turns w w' (fun k => k = mb) := by
  have H := Lib.hid h
  obtain ⟨hn1, hn2⟩ := h.n1
  obtain ⟨v0, v1⟩ := h.lo p k
  have c0 := h.c0
  have d0 := h.cell hp hk
  have e0 := h.tab.free (p * 6 + k)
  have hpi : (p : Int) < (N : Int) := by omega
  have hki : (k : Int) < 6 := by omega
  have bl := h.row.lt
  have ml := h.tab.lt
  clear h
  go_enter Try.func16, Try.ntmps16
  go_wp2_with (go_at_call 20; refine (len_any b mb N f _ H.out).mono ?_; rintro e w' ⟨rfl, rfl⟩)
  go_region
  all_goals
    go_wp2
    go_ret
    exact ⟨rfl, Cs.drew (H.out.put hp hk (f p k + 1) (by omega)), Turns.drew ((Turns.refl w _).put mb _ _ (fun _ => rfl))⟩
end
end Go.Proofs.Ytjciilnbcmaikaa.Co
