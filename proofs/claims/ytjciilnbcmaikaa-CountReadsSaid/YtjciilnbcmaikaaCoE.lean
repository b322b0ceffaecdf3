/- Counts: they are read one by one, by a reader. -/
import Derived.Test.YtjciilnbcmaikaaCoD
namespace Go.Proofs.Ytjciilnbcmaikaa.Co
open Go.RowKit Go.Proofs.Ytjciilnbcmaikaa
set_option linter.unusedVariables false
set_option maxRecDepth 100000

/-- A reader at rb: of which counts, how many it has read, and what they are together. -/
def Rd (w : World) (rb : Nat) (b : Option Addr) (q : Nat) (s : Nat → Int) : Prop :=
  Row w rb 135 #[.pointer b, .int .i64 q, .int .i64 (s 0), .int .i64 (s 1), .int .i64 (s 2), .int .i64 (s 3), .int .i64 (s 4), .int .i64 (s 5)]
theorem quiet_left {P : Program} {f : FuncId} {args : Array Value} {w : World} {n : Nat} {v : Value}
    (h : Calls P f args (w.drewN n) fun e w' => e = .returned v ∧ w.drewN n = w') : Calls P f args (w.drewN n) fun e w'' => e = .returned v ∧ ∃ m, w'' = w.drewN m :=
  h.mono fun _ _ ⟨he, hm⟩ => ⟨he, n, hm.symm⟩
theorem Cs.drewN {w : World} {b mb N : Nat} {f : Nat → Nat → Int} (h : Cs w b mb N f) (n : Nat) : Cs (w.drewN n) b mb N f := ⟨h.row, h.tab, h.ne, h.n1, h.lo⟩
theorem read_any (b : Option Addr) (w : World) : Calls Try.prog 21 #[.pointer b] w fun e w' => e = .returned (.pointer (some ⟨w.heap.size, 0, none⟩)) ∧ Rd w' w.heap.size b 0 (fun _ => 0) ∧ Below w.heap.size w w' := by
  have HR : Hid (Rd (w.alloc (.cells #[.pointer b, .int .i64 0, .int .i64 0, .int .i64 0, .int .i64 0, .int .i64 0, .int .i64 0, .int .i64 0] 135)) w.heap.size b 0 (fun _ => 0)) := Row.made _ _ _
  go_enter Try.func21, Try.ntmps21
  go_wp2
  go_ret
  exact ⟨rfl, HR.out, by go_grown⟩
theorem rsum_any (rb : Nat) (b : Option Addr) (q : Nat) (s : Nat → Int) (w : World) (h : Rd w rb b q s) :
    Calls Try.prog 24 #[.pointer (some ⟨rb, 0, none⟩)] w
    fun e w' => e = .returned (.agg #[.int .i64 (s 0), .int .i64 (s 1), .int .i64 (s 2), .int .i64 (s 3), .int .i64 (s 4), .int .i64 (s 5)]) ∧ Below w.heap.size w w' := by
  have rl := h.lt
  have d0 : w.cell? ⟨rb, 2, none⟩ = some (.int .i64 (s 0)) := Row.cell h 2
  have d1 : w.cell? ⟨rb, 3, none⟩ = some (.int .i64 (s 1)) := Row.cell h 3
  have d2 : w.cell? ⟨rb, 4, none⟩ = some (.int .i64 (s 2)) := Row.cell h 4
  have d3 : w.cell? ⟨rb, 5, none⟩ = some (.int .i64 (s 3)) := Row.cell h 5
  have d4 : w.cell? ⟨rb, 6, none⟩ = some (.int .i64 (s 4)) := Row.cell h 6
  have d5 : w.cell? ⟨rb, 7, none⟩ = some (.int .i64 (s 5)) := Row.cell h 7
  clear h
  go_enter Try.func24, Try.ntmps24
  go_wp2
  exact bodyPost_ret (v := .agg #[.int .i64 (s 0), .int .i64 (s 1), .int .i64 (s 2), .int .i64 (s 3), .int .i64 (s 4), .int .i64 (s 5)]) (by simp [results, Try.results24, go_sem]) rfl ⟨rfl, by go_grown⟩
theorem step_nil (rb : Nat) (s : Nat → Int) (w : World) (h : Rd w rb none 0 s) :
    Calls Try.prog 22 #[.pointer (some ⟨rb, 0, none⟩)] w fun e w' => e = .returned (.bool true) ∧ ∃ n, w' = w.drewN n := by
  have rl := h.lt
  have d0 : w.cell? ⟨rb, 0, none⟩ = some (.pointer none) := Row.cell h 0
  have d1 : w.cell? ⟨rb, 1, none⟩ = some (.int .i64 0) := Row.cell h 1
  clear h
  go_enter Try.func22, Try.ntmps22
  go_wp2
  go_quiet ((go_at_call 20; exact quiet_left (len_nil _)))
  have e0 : (w.drewN nq).cell? ⟨rb, 0, none⟩ = some (.pointer none) := d0
  have e1 : (w.drewN nq).cell? ⟨rb, 1, none⟩ = some (.int .i64 0) := d1
  clear d0 d1
  have HW : Hid (∃ n, w.drewN nq = w.drewN n) := ⟨nq, rfl⟩
  have rl : rb < (w.drewN nq).heap.size := rl
  generalize w.drewN nq = W1 at e0 e1 HW rl ⊢
  go_wp2
  go_quiet ((go_at_call 20; exact quiet_left (len_nil _)))
  go_wp2
  go_ret
  obtain ⟨m, rfl⟩ := HW.out
  exact ⟨rfl, _, World.drewN_drewN _ _ _⟩
theorem Rd.put {w : World} {rb : Nat} {b : Option Addr} {q : Nat} {s : Nat → Int} (h : Rd w rb b q s) (g : Nat → Int) :
    Rd ((((((w.setCell ⟨rb, 2, none⟩ (.int .i64 (g 0))).setCell ⟨rb, 3, none⟩ (.int .i64 (g 1))).setCell ⟨rb, 4, none⟩ (.int .i64 (g 2))).setCell ⟨rb, 5, none⟩ (.int .i64 (g 3))).setCell ⟨rb, 6, none⟩ (.int .i64 (g 4))).setCell ⟨rb, 7, none⟩ (.int .i64 (g 5))) rb b q g :=
  ((((((Row.put h 2 _).put 3 _).put 4 _).put 5 _).put 6 _).put 7 _)
theorem rd_putT (w : World) (rb : Nat) (g : Nat → Int) : Turns w ((((((w.setCell ⟨rb, 2, none⟩ (.int .i64 (g 0))).setCell ⟨rb, 3, none⟩ (.int .i64 (g 1))).setCell ⟨rb, 4, none⟩ (.int .i64 (g 2))).setCell ⟨rb, 5, none⟩ (.int .i64 (g 3))).setCell ⟨rb, 6, none⟩ (.int .i64 (g 4))).setCell ⟨rb, 7, none⟩ (.int .i64 (g 5))) (fun k => k = rb) := (((((((Turns.refl w (fun k => k = rb)).put rb 2 _ (fun _ => rfl)).put rb 3 _ (fun _ => rfl)).put rb 4 _ (fun _ => rfl)).put rb 5 _ (fun _ => rfl)).put rb 6 _ (fun _ => rfl)).put rb 7 _ (fun _ => rfl))
theorem Rd.put1 {w : World} {rb : Nat} {b : Option Addr} {q : Nat} {s : Nat → Int} (h : Rd w rb b q s) (v : Value) (p : Nat) (hv : v = .int .i64 p) : Rd (w.setCell ⟨rb, 1, none⟩ v) rb b p s := by subst hv; exact Row.put h 1 _
theorem Rd.turns {w w' : World} {S : Nat → Prop} {rb : Nat} {b : Option Addr} {q : Nat} {s : Nat → Int} (h : Rd w rb b q s) (g : Turns w w' S) (hb : ¬ S rb) : Rd w' rb b q s := Row.turns h g hb
theorem Rd.call {w w' : World} {rb : Nat} {b : Option Addr} {q : Nat} {s : Nat → Int} (h : Rd w rb b q s) (g : Below w.heap.size w w') : Rd w' rb b q s := Row.turns h (Turns.of_below g) (fun h => h)
theorem Rd.drew {w : World} {rb : Nat} {b : Option Addr} {q : Nat} {s : Nat → Int} (h : Rd w rb b q s) : Rd w.drew rb b q s := h
theorem Turns.quiet (w : World) (n : Nat) (S : Nat → Prop) : Turns w (w.drewN n) S := (Turns.refl w S).drewN n
theorem Cs.of_turns {w w' : World} {b mb N rb : Nat} {f : Nat → Nat → Int} (h : Cs w b mb N f) (g : Turns w w' (fun k => k = rb)) (hb : b ≠ rb) (hm : mb ≠ rb) : Cs w' b mb N f := h.turns g hb hm
set_option maxHeartbeats 1000000 in
theorem step_last (rb b mb N : Nat) (f : Nat → Nat → Int) (s : Nat → Int) (w : World) (h : Rd w rb (some ⟨b, 0, none⟩) N s) (hc : Cs w b mb N f) :
    Calls Try.prog 22 #[.pointer (some ⟨rb, 0, none⟩)] w fun e w' => e = .returned (.bool true) ∧ ∃ n, w' = w.drewN n := by
  have rl := h.lt
  have d0 : w.cell? ⟨rb, 0, none⟩ = some (.pointer (some ⟨b, 0, none⟩)) := Row.cell h 0
  have d1 : w.cell? ⟨rb, 1, none⟩ = some (.int .i64 N) := Row.cell h 1
  have HC := Lib.hid hc
  have hn := hc.n1
  clear h hc
  go_enter Try.func22, Try.ntmps22
  go_wp2
  go_quiet ((go_at_call 20; exact quiet_left (len_any b mb N f _ (HC.out.drewN _))))
  have e0 : (w.drewN nq).cell? ⟨rb, 0, none⟩ = some (.pointer (some ⟨b, 0, none⟩)) := d0
  have e1 : (w.drewN nq).cell? ⟨rb, 1, none⟩ = some (.int .i64 N) := d1
  have HC1 := Lib.hid (HC.out.drewN nq)
  clear d0 d1
  have HW : Hid (∃ n, w.drewN nq = w.drewN n) := ⟨nq, rfl⟩
  have rl : rb < (w.drewN nq).heap.size := rl
  generalize w.drewN nq = W1 at e0 e1 HW rl HC1 ⊢
  go_wp2
  go_quiet ((go_at_call 20; exact quiet_left (len_any b mb N f _ (HC1.out.drewN _))))
  go_wp2
  go_ret
  obtain ⟨m, rfl⟩ := HW.out
  exact ⟨rfl, _, World.drewN_drewN _ _ _⟩
set_option maxHeartbeats 2000000 in
theorem step_more (rb b mb N : Nat) (f : Nat → Nat → Int) (s : Nat → Int) (w : World) (q : Nat) (hq : q < N) (h : Rd w rb (some ⟨b, 0, none⟩) q s) (hc : Cs w b mb N f) (hs : ∀ k, k < 6 → Fit (s k) (f q k)) (hb : b ≠ rb) (hm : mb ≠ rb) (r : Bool) (hr : decide (q + 1 = N) = r) :
    Calls Try.prog 22 #[.pointer (some ⟨rb, 0, none⟩)] w fun e w' => e = .returned (.bool r) ∧ Rd w' rb (some ⟨b, 0, none⟩) (q + 1) (fun k => s k + f q k) ∧ Turns w w' (fun k => k = rb) := by
  have HR := Lib.hid hr
  have HS := Lib.hid hs
  have rl := h.lt
  have d0 : w.cell? ⟨rb, 0, none⟩ = some (.pointer (some ⟨b, 0, none⟩)) := Row.cell h 0
  have d1 : w.cell? ⟨rb, 1, none⟩ = some (.int .i64 q) := Row.cell h 1
  have HC := Lib.hid hc
  have H := Lib.hid h
  have hn := hc.n1
  have HB := Lib.hid hb
  have HM := Lib.hid hm
  have hqi : (q : Int) < (N : Int) := by omega
  clear h hc hr hs hb hm
  go_enter Try.func22, Try.ntmps22
  go_wp2
  go_quiet ((go_at_call 20; exact quiet_left (len_any b mb N f _ (HC.out.drewN _))))
  have HC1 := Lib.hid (HC.out.drewN nq)
  have H1 : Hid (Rd (w.drewN nq) rb (some ⟨b, 0, none⟩) q s) := H.out
  have HT := Lib.hid (Turns.quiet w nq (fun k => k = rb))
  clear d0 d1 H HC rl
  generalize w.drewN nq = W1 at H1 HC1 HT ⊢
  have rl := H1.out.lt
  have d0 : W1.cell? ⟨rb, 0, none⟩ = some (.pointer (some ⟨b, 0, none⟩)) := Row.cell H1.out 0
  have d1 : W1.cell? ⟨rb, 1, none⟩ = some (.int .i64 q) := Row.cell H1.out 1
  have d2 : W1.cell? ⟨rb, 2, none⟩ = some (.int .i64 (s 0)) := Row.cell H1.out 2
  have d3 : W1.cell? ⟨rb, 3, none⟩ = some (.int .i64 (s 1)) := Row.cell H1.out 3
  have d4 : W1.cell? ⟨rb, 4, none⟩ = some (.int .i64 (s 2)) := Row.cell H1.out 4
  have d5 : W1.cell? ⟨rb, 5, none⟩ = some (.int .i64 (s 3)) := Row.cell H1.out 5
  have d6 : W1.cell? ⟨rb, 6, none⟩ = some (.int .i64 (s 4)) := Row.cell H1.out 6
  have d7 : W1.cell? ⟨rb, 7, none⟩ = some (.int .i64 (s 5)) := Row.cell H1.out 7
  go_wp2
  go_region_law (first
    | (go_simp; go_at_call 17; refine (of_yes b mb N f _ (Cs.drew HC1.out) q hq).mono ?_; rintro e w1 ⟨rfl, hb⟩; have M1 : Hid (Rd w1 rb (some ⟨b, 0, none⟩) q s) := (Rd.drew H1.out).call hb; have T1 : Hid (Turns W1 w1 (fun k => k = rb)) := (Turns.drew (Turns.refl W1 _)).trans ((Turns.of_below hb).mono (S' := fun _ => False) (fun _ _ h => h)) (fun _ _ h => h.elim); have x2 : w1.cell? ⟨rb, 2, none⟩ = some (.int .i64 (s 0)) := Row.cell M1.out 2; have x3 : w1.cell? ⟨rb, 3, none⟩ = some (.int .i64 (s 1)) := Row.cell M1.out 3; have x4 : w1.cell? ⟨rb, 4, none⟩ = some (.int .i64 (s 2)) := Row.cell M1.out 4; have x5 : w1.cell? ⟨rb, 5, none⟩ = some (.int .i64 (s 3)) := Row.cell M1.out 5; have x6 : w1.cell? ⟨rb, 6, none⟩ = some (.int .i64 (s 4)) := Row.cell M1.out 6; have x7 : w1.cell? ⟨rb, 7, none⟩ = some (.int .i64 (s 5)) := Row.cell M1.out 7; clear hb)
    | (go_simp; go_at_call 25; refine (plus_any _ _ _ _ _ _ _ _ _ _ _ _ _ (HS.out 0 (by omega)) (HS.out 1 (by omega)) (HS.out 2 (by omega)) (HS.out 3 (by omega)) (HS.out 4 (by omega)) (HS.out 5 (by omega))).mono ?_; rintro e w2 ⟨rfl, hb⟩; have M2 : Hid (Rd w2 rb (some ⟨b, 0, none⟩) q s) := M1.out.call hb; have T2 : Hid (Turns W1 w2 (fun k => k = rb)) := T1.out.trans (Turns.of_below hb) (fun _ _ h => h.elim); have y2 : w2.cell? ⟨rb, 2, none⟩ = some (.int .i64 (s 0)) := Row.cell M2.out 2; have y3 : w2.cell? ⟨rb, 3, none⟩ = some (.int .i64 (s 1)) := Row.cell M2.out 3; have y4 : w2.cell? ⟨rb, 4, none⟩ = some (.int .i64 (s 2)) := Row.cell M2.out 4; have y5 : w2.cell? ⟨rb, 5, none⟩ = some (.int .i64 (s 3)) := Row.cell M2.out 5; have y6 : w2.cell? ⟨rb, 6, none⟩ = some (.int .i64 (s 4)) := Row.cell M2.out 6; have y7 : w2.cell? ⟨rb, 7, none⟩ = some (.int .i64 (s 5)) := Row.cell M2.out 7; have gf : ∀ i, w2.frozen? ⟨rb, i, none⟩ = false := Row.free M2.out; clear hb))
  all_goals
    have M3 := Lib.hid (Rd.put M2.out (fun k => s k + f q k))
    have T3 := Lib.hid (T2.out.trans (rd_putT w2 rb (fun k => s k + f q k)) (fun _ _ h => h))
    clear x2 x3 x4 x5 x6 x7 y2 y3 y4 y5 y6 y7 gf d0 d1 d2 d3 d4 d5 d6 d7 rl M2 M1 T1 T2
    generalize ((((((w2.setCell ⟨rb, 2, none⟩ (.int .i64 (s 0 + f q 0))).setCell ⟨rb, 3, none⟩ (.int .i64 (s 1 + f q 1))).setCell ⟨rb, 4, none⟩ (.int .i64 (s 2 + f q 2))).setCell ⟨rb, 5, none⟩ (.int .i64 (s 3 + f q 3))).setCell ⟨rb, 6, none⟩ (.int .i64 (s 4 + f q 4))).setCell ⟨rb, 7, none⟩ (.int .i64 (s 5 + f q 5))) = W3 at M3 T3 ⊢
    have z0 : W3.cell? ⟨rb, 1, none⟩ = some (.int .i64 q) := Row.cell M3.out 1
    have zf := Row.free M3.out 1
    have M4 : Hid (Rd (W3.setCell ⟨rb, 1, none⟩ (.int .i64 ((q : Int) + 1))) rb (some ⟨b, 0, none⟩) (q + 1) (fun k => s k + f q k)) := M3.out.put1 _ (q + 1) (i64_of (by omega))
    have T4 : Hid (Turns W1 (W3.setCell ⟨rb, 1, none⟩ (.int .i64 ((q : Int) + 1))) (fun k => k = rb)) := T3.out.put rb 1 _ (fun _ => rfl)
    go_upto_region 6 with fail
    clear z0 zf M3 T3
    generalize W3.setCell ⟨rb, 1, none⟩ (.int .i64 ((q : Int) + 1)) = W4 at M4 T4 ⊢
    have HC4 : Hid (Cs W4 b mb N f) := HC1.out.of_turns T4.out HB.out HM.out
    have rl := M4.out.lt
    have d0 : W4.cell? ⟨rb, 0, none⟩ = some (.pointer (some ⟨b, 0, none⟩)) := Row.cell M4.out 0
    have d1 : W4.cell? ⟨rb, 1, none⟩ = some (.int .i64 ((q : Int) + 1)) := (Row.cell M4.out 1).trans (by simp)
    go_wp2
    go_quiet ((go_at_call 20; exact quiet_left (len_any b mb N f _ (HC4.out.drewN _))))
    go_wp2
    go_ret
    exact ⟨ret_bool (by rw [← HR.out, Bool.eq_iff_iff]; simp; omega), M4.out, (HT.out.trans T4.out (fun _ _ h => h)).drewN _⟩
end Go.Proofs.Ytjciilnbcmaikaa.Co
