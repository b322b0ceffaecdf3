/- When two messages are alike. -/
import Derived.Test.YtpgacadnmekdhaaMsA
import Derived.Laws.StructEq
import Derived.LoopN
namespace Go.Proofs.Ytpgacadnmekdhaa.Ms
open Go.RowKit Go.Proofs.Ytpgacadnmekdhaa Go.Proofs.Ytpgacadnmekdhaa.Ev
set_option linter.unusedVariables false
set_option maxRecDepth 100000

theorem eq_len (A B : Option Addr) (n m c d : Nat) (w : World) (h : n ≠ m) :
    Calls Try.prog 153 #[.slice A n c, .slice B m d] w fun e w' => e = .returned (.bool false) ∧ w = w' := by
  have hni : ((n : Int) == (m : Int)) = false := by simp; omega
  have hnn : decide ((n : Int) = (m : Int)) = false := by simp; omega
  go_enter Try.func153, Try.ntmps153
  go_wp2
  go_ret
  exact ⟨rfl, rfl⟩
set_option maxHeartbeats 1000000 in
theorem eq_yes (A B : Option Addr) (c d : Nat) (vs : List VV) (w : World) (h : VS w A c vs) (g : VS w B d vs) :
    Calls Try.prog 153 #[.slice A vs.length c, .slice B vs.length d] w fun e w' => e = .returned (.bool true) ∧ ∃ n, w' = w.drewN n := by
  have H := Lib.hid h
  have G := Lib.hid g
  have hl : vs.length ≤ 9223372036854775807 := Nat.le_trans h.1 h.2.1
  clear h g
  obtain ⟨n, hn⟩ : ∃ n, vs.length = n := ⟨_, rfl⟩
  rw [hn] at hl ⊢
  have HN := Lib.hid hn
  clear hn
  go_enter Try.func153, Try.ntmps153
  go_wp2
  go_loopw [13] (fun v wr => ∃ k : Nat, k ≤ n ∧ v = .int .i64 k ∧ Hid (∃ m, wr = w.drewN m)) (fun v _ => n - (intOf v).toNat)
  case atStart => exact ⟨0, by omega, rfl, Lib.hid ⟨0, rfl⟩⟩
  case round =>
    obtain ⟨k, hk, rfl, hw⟩ := hrel
    obtain ⟨m, rfl⟩ := hw.out
    by_cases hlt : k < n
    · have hki : (k : Int) < (n : Int) := by omega
      obtain ⟨g, o, rfl, _, h0, h1, h2, h3⟩ := H.out.2.2 k (vs[k]'(by rw [HN.out]; exact hlt)) (by rw [List.getElem?_eq_getElem])
      obtain ⟨g', o', rfl, _, h0', h1', h2', h3'⟩ := G.out.2.2 k (vs[k]'(by rw [HN.out]; exact hlt)) (by rw [List.getElem?_eq_getElem])
      generalize vs[k]'(by rw [HN.out]; exact hlt) = x at h0 h1 h2 h3 h0' h1' h2' h3'
      obtain ⟨xk, xi, xs, xb⟩ := x
      dsimp only at h0 h1 h2 h3 h0' h1' h2' h3'
      go_upto_region 6 with fail
      go_quiet (fail)
      go_wp2
      go_roundw
      case measure => simp [intOf]; omega
      case rel => exact ⟨k + 1, by omega, by go_num, Lib.hid ⟨m + nq, rfl⟩⟩
    · have hki : ¬ (k : Int) < (n : Int) := by omega
      go_wp2
      go_ret
      exact ⟨rfl, m, rfl⟩
/-- An event's cells. -/
def evc (ty key : ByteArray) (t q : Int) (A : Option Addr) (n c : Nat) : Array Value := #[.string ty, .string key, .int .i64 t, .int .i64 q, .slice A n c]
section
variable (ty key : ByteArray) (t q : Int) (A B : Option Addr) (n c d : Nat) (w : World)
set_option maxHeartbeats 1000000 in
theorem ev_yes (vs : List VV) (h : VS w A c vs) (g : VS w B d vs) :
    Calls Try.prog 101 #[.agg #[.string ty, .string key, .int .i64 t, .int .i64 q, .slice A vs.length c], .agg #[.string ty, .string key, .int .i64 t, .int .i64 q, .slice B vs.length d]] w fun e w' => e = .returned (.bool true) ∧ Below w.heap.size w w' := by
  have H := Lib.hid h
  have G := Lib.hid g
  clear h g
  go_enter Try.func101, Try.ntmps101
  go_wp2_with fail
  refine (eq_yes A B c d vs _ ?_ ?_).mono ?_
  · exact (H.out.call (by go_grown))
  · exact (G.out.call (by go_grown))
  rintro e w' ⟨rfl, nn, rfl⟩
  go_wp2
  go_ret
  exact ⟨rfl, below_drewN (by go_grown) _⟩
set_option maxHeartbeats 1000000 in
theorem ev_len (m : Nat) (h : n ≠ m) :
    Calls Try.prog 101 #[.agg #[.string ty, .string key, .int .i64 t, .int .i64 q, .slice A n c], .agg #[.string ty, .string key, .int .i64 t, .int .i64 q, .slice B m d]] w fun e w' => e = .returned (.bool false) ∧ Below w.heap.size w w' := by
  have H := Lib.hid h
  clear h
  go_enter Try.func101, Try.ntmps101
  go_wp2_with fail
  refine (eq_len A B n m c d _ H.out).mono ?_
  rintro e w' ⟨rfl, rfl⟩
  go_wp2
  go_ret
  exact ⟨rfl, by go_grown⟩
set_option maxHeartbeats 1000000 in
theorem ev_seq (m : Nat) (p : Int) (h : q ≠ p) :
    Calls Try.prog 101 #[.agg #[.string ty, .string key, .int .i64 t, .int .i64 q, .slice A n c], .agg #[.string ty, .string key, .int .i64 t, .int .i64 p, .slice B m d]] w fun e w' => e = .returned (.bool false) ∧ Below w.heap.size w w' := by
  have h1 : (q == p) = false := by simp; exact h
  clear h
  go_enter Try.func101, Try.ntmps101
  go_wp2
  go_ret
  exact ⟨rfl, by go_grown⟩
end
section
variable (A B : Option Addr) (n m c d : Nat) (a b x y : Int) (w : World)
theorem el_nil : Calls Try.prog 128 #[.slice A 0 c, .slice B 0 d, .func (.func 129) #[] #[]] w fun e w' => e = .returned (.bool true) ∧ w = w' := by
  go_enter Try.func128, Try.ntmps128
  go_wp2
  refine wp_loop_rounds 1 ?_
  rw [rounds_succ]
  go_wp2
  go_ret
  exact ⟨rfl, rfl⟩
theorem el_len (h : n ≠ m) : Calls Try.prog 128 #[.slice A n c, .slice B m d, .func (.func 129) #[] #[]] w fun e w' => e = .returned (.bool false) ∧ w = w' := by
  have hni : ((n : Int) == (m : Int)) = false := by simp; omega
  have hnn : decide ((n : Int) = (m : Int)) = false := by simp; omega
  go_enter Try.func128, Try.ntmps128
  go_wp2
  go_ret
  exact ⟨rfl, rfl⟩
theorem q_yes : Calls Try.prog 79 #[.agg #[.slice A 0 c, .int .i64 a, .int .i64 b], .agg #[.slice B 0 d, .int .i64 a, .int .i64 b]] w fun e w' => e = .returned (.bool true) ∧ Below w.heap.size w w' := by
  go_enter Try.func79, Try.ntmps79
  go_wp2_with fail
  refine (el_nil A B c d _).mono ?_
  rintro e w' ⟨rfl, rfl⟩
  go_wp2
  go_ret
  exact ⟨rfl, by go_grown⟩
theorem q_win (h : a ≠ x) : Calls Try.prog 79 #[.agg #[.slice A n c, .int .i64 a, .int .i64 b], .agg #[.slice B m d, .int .i64 x, .int .i64 y]] w fun e w' => e = .returned (.bool false) ∧ Below w.heap.size w w' := by
  have h1 : (a == x) = false := by simp; exact h
  clear h
  go_enter Try.func79, Try.ntmps79
  go_wp2
  go_ret
  exact ⟨rfl, by go_grown⟩
theorem q_len (h : n ≠ m) : Calls Try.prog 79 #[.agg #[.slice A n c, .int .i64 a, .int .i64 b], .agg #[.slice B m d, .int .i64 a, .int .i64 b]] w fun e w' => e = .returned (.bool false) ∧ Below w.heap.size w w' := by
  have H := Lib.hid h
  clear h
  go_enter Try.func79, Try.ntmps79
  go_wp2_with fail
  refine (el_len A B n m c d _ H.out).mono ?_
  rintro e w' ⟨rfl, rfl⟩
  go_wp2
  go_ret
  exact ⟨rfl, by go_grown⟩
end
end Go.Proofs.Ytpgacadnmekdhaa.Ms
