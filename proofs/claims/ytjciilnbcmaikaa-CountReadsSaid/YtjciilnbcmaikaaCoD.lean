/- Counts: all together; they are read one by one. -/
import Derived.Test.YtjciilnbcmaikaaCoC
namespace Go.Proofs.Ytjciilnbcmaikaa.Co
open Go.RowKit Go.Proofs.Ytjciilnbcmaikaa
set_option linter.unusedVariables false
set_option maxRecDepth 100000

theorem Own.drew {w0 w : World} {L : List (Nat × TypeId × Array Value)} (h : Own w0 w L) : Own w0 w.drew L := ⟨⟨h.be.os, h.be.tape, h.be.output, h.be.size, h.be.block⟩, h.rows, h.apart⟩
theorem fit_sm (f : Nat → Nat → Int) (h : ∀ p k, 0 ≤ f p k ∧ f p k ≤ 1000) (k p : Nat) (hp : p ≤ 64) : Fit (sm f k p) (f p k) := by
  have := sm_lo f h k p; have := h p k; unfold Fit; omega
set_option maxHeartbeats 2000000 in
theorem sum_any (b mb N : Nat) (f : Nat → Nat → Int) (w : World) (h : Cs w b mb N f) :
    Calls Try.prog 19 #[.pointer (some ⟨b, 0, none⟩)] w
    fun e w' => e = .returned (.agg #[.int .i64 (sm f 0 N), .int .i64 (sm f 1 N), .int .i64 (sm f 2 N), .int .i64 (sm f 3 N), .int .i64 (sm f 4 N), .int .i64 (sm f 5 N)]) ∧ Below w.heap.size w w' := by
  have H := Lib.hid h
  have bl := h.row.lt
  have ml := h.tab.lt
  obtain ⟨hn1, hn2⟩ := h.n1
  clear h
  go_enter Try.func19, Try.ntmps19
  go_wp2_with fail
  refine (len_any b mb N f _ ((H.out.alloc _).alloc _)).mono ?_
  rintro e w' ⟨rfl, rfl⟩
  go_wp2
  go_loopw [7] (fun i wr => ∃ p : Nat, p ≤ N ∧ i = .int .i64 p ∧ Hid (Own w wr [(w.heap.size + 1, 26, #[.int .i64 (sm f 0 p), .int .i64 (sm f 1 p), .int .i64 (sm f 2 p), .int .i64 (sm f 3 p), .int .i64 (sm f 4 p), .int .i64 (sm f 5 p)]), (w.heap.size, 26, #[.int .i64 0, .int .i64 0, .int .i64 0, .int .i64 0, .int .i64 0, .int .i64 0])])) (fun i _ => N - (intOf i).toNat)
  case atStart =>
    refine ⟨0, by omega, rfl, ?_⟩
    have := ((Own.start w).made 26 #[.int .i64 0, .int .i64 0, .int .i64 0, .int .i64 0, .int .i64 0, .int .i64 0]).made 26 #[.int .i64 0, .int .i64 0, .int .i64 0, .int .i64 0, .int .i64 0, .int .i64 0]
    rw [World.size_alloc] at this
    exact this
  case round =>
    obtain ⟨p, hp, rfl, M⟩ := hrel
    by_cases hlt : p < N
    · have hpi : (p : Int) < (N : Int) := by omega
      go_upto_region 5 with fail
      have r0 := M.out.row 0 rfl
      have c0 : wr.cell? ⟨w.heap.size + 1, 0, none⟩ = some (.int .i64 (sm f 0 p)) := r0.cell 0
      have c1 : wr.cell? ⟨w.heap.size + 1, 1, none⟩ = some (.int .i64 (sm f 1 p)) := r0.cell 1
      have c2 : wr.cell? ⟨w.heap.size + 1, 2, none⟩ = some (.int .i64 (sm f 2 p)) := r0.cell 2
      have c3 : wr.cell? ⟨w.heap.size + 1, 3, none⟩ = some (.int .i64 (sm f 3 p)) := r0.cell 3
      have c4 : wr.cell? ⟨w.heap.size + 1, 4, none⟩ = some (.int .i64 (sm f 4 p)) := r0.cell 4
      have c5 : wr.cell? ⟨w.heap.size + 1, 5, none⟩ = some (.int .i64 (sm f 5 p)) := r0.cell 5
      have HC : Hid (Cs wr b mb N f) := H.out.turns ((Turns.of_below M.out.be)) (fun h => h) (fun h => h)
      clear r0
      go_region_law (first
        | (go_simp; go_at_call 17; refine (of_yes b mb N f _ (Cs.drew HC.out) p hlt).mono ?_; rintro e w1 ⟨rfl, hb⟩; have M1 := Lib.hid ((Own.drew M.out).call hb); have q0 := M1.out.row 0 rfl; have d0 : w1.cell? ⟨w.heap.size + 1, 0, none⟩ = some (.int .i64 (sm f 0 p)) := q0.cell 0; have d1 : w1.cell? ⟨w.heap.size + 1, 1, none⟩ = some (.int .i64 (sm f 1 p)) := q0.cell 1; have d2 : w1.cell? ⟨w.heap.size + 1, 2, none⟩ = some (.int .i64 (sm f 2 p)) := q0.cell 2; have d3 : w1.cell? ⟨w.heap.size + 1, 3, none⟩ = some (.int .i64 (sm f 3 p)) := q0.cell 3; have d4 : w1.cell? ⟨w.heap.size + 1, 4, none⟩ = some (.int .i64 (sm f 4 p)) := q0.cell 4; have d5 : w1.cell? ⟨w.heap.size + 1, 5, none⟩ = some (.int .i64 (sm f 5 p)) := q0.cell 5; clear hb q0)
        | (go_simp; go_at_call 25; refine (plus_any _ _ _ _ _ _ _ _ _ _ _ _ _ (fit_sm f H.out.lo 0 p (by omega)) (fit_sm f H.out.lo 1 p (by omega)) (fit_sm f H.out.lo 2 p (by omega)) (fit_sm f H.out.lo 3 p (by omega)) (fit_sm f H.out.lo 4 p (by omega)) (fit_sm f H.out.lo 5 p (by omega))).mono ?_; rintro e w2 ⟨rfl, hb⟩; have M2 := Lib.hid (M1.out.call hb); have q0 := M2.out.row 0 rfl; have g0 : w2.cell? ⟨w.heap.size + 1, 0, none⟩ = some (.int .i64 (sm f 0 p)) := q0.cell 0; have g1 : w2.cell? ⟨w.heap.size + 1, 1, none⟩ = some (.int .i64 (sm f 1 p)) := q0.cell 1; have g2 : w2.cell? ⟨w.heap.size + 1, 2, none⟩ = some (.int .i64 (sm f 2 p)) := q0.cell 2; have g3 : w2.cell? ⟨w.heap.size + 1, 3, none⟩ = some (.int .i64 (sm f 3 p)) := q0.cell 3; have g4 : w2.cell? ⟨w.heap.size + 1, 4, none⟩ = some (.int .i64 (sm f 4 p)) := q0.cell 4; have g5 : w2.cell? ⟨w.heap.size + 1, 5, none⟩ = some (.int .i64 (sm f 5 p)) := q0.cell 5; have gf : ∀ i, w2.frozen? ⟨w.heap.size + 1, i, none⟩ = false := q0.free; clear hb q0))
      all_goals
        have M3 := Lib.hid (row6_put (M2.out.row 0 rfl) (.int .i64 (sm f 0 p + f p 0)) (.int .i64 (sm f 1 p + f p 1)) (.int .i64 (sm f 2 p + f p 2)) (.int .i64 (sm f 3 p + f p 3)) (.int .i64 (sm f 4 p + f p 4)) (.int .i64 (sm f 5 p + f p 5)))
        clear g0 g1 g2 g3 g4 g5 gf d0 d1 d2 d3 d4 d5 c0 c1 c2 c3 c4 c5
        go_wp2
        go_roundw
        case measure => simp [intOf]; omega
        case rel => exact ⟨p + 1, by omega, by go_num, ((((((M2.out.put 0 rfl 0 (.int .i64 (sm f 0 p + f p 0))).put 0 rfl 1 (.int .i64 (sm f 1 p + f p 1))).put 0 rfl 2 (.int .i64 (sm f 2 p + f p 2))).put 0 rfl 3 (.int .i64 (sm f 3 p + f p 3))).put 0 rfl 4 (.int .i64 (sm f 4 p + f p 4))).put 0 rfl 5 (.int .i64 (sm f 5 p + f p 5)))⟩
    · obtain rfl : p = N := by omega
      have r0 := M.out.row 0 rfl
      have c0 : wr.cell? ⟨w.heap.size + 1, 0, none⟩ = some (.int .i64 (sm f 0 p)) := r0.cell 0
      have c1 : wr.cell? ⟨w.heap.size + 1, 1, none⟩ = some (.int .i64 (sm f 1 p)) := r0.cell 1
      have c2 : wr.cell? ⟨w.heap.size + 1, 2, none⟩ = some (.int .i64 (sm f 2 p)) := r0.cell 2
      have c3 : wr.cell? ⟨w.heap.size + 1, 3, none⟩ = some (.int .i64 (sm f 3 p)) := r0.cell 3
      have c4 : wr.cell? ⟨w.heap.size + 1, 4, none⟩ = some (.int .i64 (sm f 4 p)) := r0.cell 4
      have c5 : wr.cell? ⟨w.heap.size + 1, 5, none⟩ = some (.int .i64 (sm f 5 p)) := r0.cell 5
      have q0 := M.out.row 1 rfl
      have d0 : wr.cell? ⟨w.heap.size, 0, none⟩ = some (.int .i64 0) := q0.cell 0
      have d1 : wr.cell? ⟨w.heap.size, 1, none⟩ = some (.int .i64 0) := q0.cell 1
      have d2 : wr.cell? ⟨w.heap.size, 2, none⟩ = some (.int .i64 0) := q0.cell 2
      have d3 : wr.cell? ⟨w.heap.size, 3, none⟩ = some (.int .i64 0) := q0.cell 3
      have d4 : wr.cell? ⟨w.heap.size, 4, none⟩ = some (.int .i64 0) := q0.cell 4
      have d5 : wr.cell? ⟨w.heap.size, 5, none⟩ = some (.int .i64 0) := q0.cell 5
      have gf : ∀ i, wr.frozen? ⟨w.heap.size, i, none⟩ = false := q0.free
      have hR := row6_put q0 (.int .i64 (sm f 0 p)) (.int .i64 (sm f 1 p)) (.int .i64 (sm f 2 p)) (.int .i64 (sm f 3 p)) (.int .i64 (sm f 4 p)) (.int .i64 (sm f 5 p))
      have HR := Lib.hid hR
      clear r0 q0 hR
      go_wp2
      exact bodyPost_ret (v := .agg #[.int .i64 (sm f 0 p), .int .i64 (sm f 1 p), .int .i64 (sm f 2 p), .int .i64 (sm f 3 p), .int .i64 (sm f 4 p), .int .i64 (sm f 5 p)]) (by
        have k0 := HR.out.cell 0
        have k1 := HR.out.cell 1
        have k2 := HR.out.cell 2
        have k3 := HR.out.cell 3
        have k4 := HR.out.cell 4
        have k5 := HR.out.cell 5
        simp only [List.getElem?_toArray, List.getElem?_cons_zero, List.getElem?_cons_succ] at k0 k1 k2 k3 k4 k5
        simp [results, Try.results19, go_sem, k0, k1, k2, k3, k4, k5]) rfl ⟨rfl, ((((((M.out.be.setCell (by simp) _).setCell (by simp) _).setCell (by simp) _).setCell (by simp) _).setCell (by simp) _).setCell (by simp) _)⟩
end Go.Proofs.Ytjciilnbcmaikaa.Co
