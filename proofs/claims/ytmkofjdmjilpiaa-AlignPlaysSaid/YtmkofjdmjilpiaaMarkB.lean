/- The earliest of marks. -/
import Derived.Test.YtmkofjdmjilpiaaMarkA
import Derived.Deep.DeepCutAuto
import Derived.Deep.RegionHeld3
namespace Go.Proofs.Ytmkofjdmjilpiaa.Mark
open Go.RowKit Go.Proofs.Ytmkofjdmjilpiaa
set_option linter.unusedVariables false

/-- The least of the first and k things from it on. -/
def mn (f : Nat → Int) : Nat → Int
  | 0 => f 0
  | k + 1 => if f k < mn f k then f k else mn f k
theorem mn_lo (f : Nat → Int) (a b : Int) (n : Nat) (hn : 0 < n) (h : ∀ k, k < n → a ≤ f k ∧ f k ≤ b) : ∀ k, k ≤ n → a ≤ mn f k ∧ mn f k ≤ b
  | 0, _ => h 0 hn
  | k + 1, hk => by
    have h1 := mn_lo f a b n hn h k (by omega)
    have h2 := h k (by omega)
    unfold mn
    split
    · exact h2
    · exact h1
theorem least_none (c : Nat) (A : Option Addr) (w : World) : Calls Try.prog 24 #[.slice A 0 c] w fun e w' => e = .returned (.agg #[.int .i64 0]) ∧ Below w.heap.size w w' := by
  go_enter Try.func24, Try.ntmps24
  go_wp2
  exact bodyPost_ret (v := .agg #[.int .i64 0]) (by simp [results, Try.results24, go_sem]) rfl ⟨rfl, by go_grown⟩
set_option maxRecDepth 100000 in
set_option maxHeartbeats 2000000 in
theorem least_some (A : Option Addr) (n c : Nat) (f : Nat → Int) (w : World) (hl : Lies w w.heap.size A n (fun k => .int .i64 (f k))) (hn : 0 < n) (hm : n ≤ 9223372036854775807) (hf : ∀ k, k < n → 0 ≤ f k ∧ f k ≤ 1099511627777) :
    Calls Try.prog 24 #[.slice A n c] w fun e w' => e = .returned (.agg #[.int .i64 (mn f n)]) ∧ Below w.heap.size w w' := by
  have HL := Lib.hid hl
  have HF := Lib.hid hf
  have e0 : ((n : Int) == 0) = false := by simp; omega
  obtain ⟨g, o, rfl, hg, hc⟩ := hl 0 hn
  rw [Nat.add_zero] at hc
  clear hl hf
  go_enter Try.func24, Try.ntmps24
  go_wp2
  go_loopw [15] (fun i wr => ∃ k : Nat, k ≤ n ∧ i = .int .i64 k ∧ Hid (Own w wr [(w.heap.size + 1, 33, #[.int .i64 (mn f k)]), (w.heap.size, 33, #[.int .i64 0])])) (fun i _ => n - (intOf i).toNat)
  case atStart => exact ⟨0, by omega, rfl, by
    have := ((Own.start w).made 33 #[.int .i64 0]).made 33 #[.int .i64 (f 0)]
    rw [World.size_alloc] at this
    exact this⟩
  case round =>
    obtain ⟨k, hk, rfl, M⟩ := hrel
    have c1 := (M.out.row 0 rfl).c0
    have f1 := (M.out.row 0 rfl).f0
    have l1 := M.out.lt 0 rfl
    have c0 := (M.out.row 1 rfl).c0
    have f0 := (M.out.row 1 rfl).f0
    obtain ⟨m0, m1⟩ := mn_lo f 0 1099511627777 n hn HF.out k hk
    by_cases hlt : k < n
    · obtain ⟨g', o', e, hg', hck⟩ := HL.out k hlt
      injection e with e
      injection e with e1 e2
      subst e1 e2
      have hck' : wr.cell? ⟨g, o + k, none⟩ = some (.int .i64 (f k)) := (M.out.be.cell (p := ⟨g, o + k, none⟩) hg').trans hck
      obtain ⟨b0, b1⟩ := HF.out k hlt
      clear hck
      by_cases hlm : f k < mn f k
      all_goals
        have HX : Hid (mn f (k + 1) = if f k < mn f k then f k else mn f k) := rfl
        go_upto_region 7 with fail
        have M1 := Lib.hid (M.out.made 33 #[.int .i64 (f k)])
        clear c0 c1 f0 f1 l1 M
        have hS : ∀ X, Below (wr.alloc (.cells #[.int .i64 (f k)] 33)).heap.size (wr.alloc (.cells #[.int .i64 (f k)] 33)) X → X.cell? ⟨wr.heap.size, 0, none⟩ = some (.int .i64 (f k)) ∧ X.cell? ⟨w.heap.size + 1, 0, none⟩ = some (.int .i64 (mn f k)) :=
          fun X hX => ⟨((M1.out.call hX).row 0 rfl).c0, ((M1.out.call hX).row 1 rfl).c0⟩
        have k1 := hS _ (Below.refl _ _)
        have HS := Lib.hid hS
        clear hS
        generalize wr.alloc (.cells #[.int .i64 (f k)] 33) = W at M1 HS k1 ⊢
        go_region_held3 (fun X => X.cell? ⟨wr.heap.size, 0, none⟩ = some (.int .i64 (f k)) ∧ X.cell? ⟨w.heap.size + 1, 0, none⟩ = some (.int .i64 (mn f k)))
          (first
            | exact k1
            | exact HS.out _ HB4.out
            | exact HS.out _ HB3.out
            | fail)
          ((first
            | (
                go_at_call 21
                (with_reducible refine (at_any (f k) _ b0 (by omega)).mono ?_)
                rintro e w3 ⟨rfl, hb3⟩
                have h3 : Below W.heap.size W w3 := Below.trans (by go_grown) hb3
                have HB3 := Lib.hid h3
                clear hb3 h3)
            | (
                go_at_call 21
                (with_reducible refine (at_any (mn f k) _ m0 (by omega)).mono ?_)
                rintro e w4 ⟨rfl, hb4⟩
                have h4 : Below W.heap.size W w4 := HB3.out.trans (hb4.mono HB3.out.size)
                have HB4 := Lib.hid h4
                clear hb4 h4)))
        have c1 := (((M1.out.call HB4.out).row 0 rfl).c0)
        have c2 := (((M1.out.call HB4.out).row 1 rfl).c0)
        have f2 := (((M1.out.call HB4.out).row 1 rfl).f0)
        go_wp2
        go_roundw
        case measure => simp [intOf]; omega
      · have M4 := Lib.hid (((M1.out.call HB4.out).put 1 rfl 0 (.int .i64 (f k))).drop 1)
        have HX1 : Hid (mn f (k + 1) = f k) := by rw [HX.out, if_pos hlm]; exact rfl
        exact ⟨k + 1, by omega, by go_num, by rw [HX1.out]; exact M4⟩
      · have M4 := Lib.hid ((M1.out.call HB4.out).drop 1)
        have HX1 : Hid (mn f (k + 1) = mn f k) := by rw [HX.out, if_neg (by omega)]; exact rfl
        exact ⟨k + 1, by omega, by go_num, by rw [HX1.out]; exact M4⟩
    · obtain rfl : k = n := by omega
      have cl : (wr.setCell ⟨w.heap.size, 0, none⟩ (.int .i64 (mn f k))).cell? ⟨w.heap.size, 0, none⟩ = some (.int .i64 (mn f k)) := ((M.out.put 1 rfl 0 _).row 1 rfl).c0
      go_wp2
      exact bodyPost_ret (v := .agg #[.int .i64 (mn f k)]) (by simp [results, Try.results24, go_sem, cl]) rfl ⟨rfl, M.out.be.setCell (by simp) _⟩
end Go.Proofs.Ytmkofjdmjilpiaa.Mark
