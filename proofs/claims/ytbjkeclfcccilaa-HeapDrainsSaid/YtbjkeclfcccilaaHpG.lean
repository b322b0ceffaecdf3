/- A heap in memory: a thing is brought back. -/
import Derived.Test.YtbjkeclfcccilaaHpF
namespace Go.Proofs.Ytbjkeclfcccilaa.Hp
open Go.RowKit Go.Proofs.Ytbjkeclfcccilaa
set_option linter.unusedVariables false
set_option maxRecDepth 100000
set_option maxHeartbeats 4000000 in
theorem sink_any (b g o cap n : Nat) (xs : List St) (i : Nat) (w : World) (h : Hm w b (.slice (some ⟨g, o, none⟩) n cap) (some g) xs) (hn : xs.length = n) (hi : i < n) (h64 : n ≤ 65536) :
    Calls Try.prog 22 #[.pointer (some ⟨b, 0, none⟩), .int .i64 i] w fun e w' => e = .returned (.tuple #[]) ∧ Rz w w' b g o cap n (sink xs i) := by
  obtain ⟨R, hR⟩ : ∃ R, sink xs i = R := ⟨_, rfl⟩
  rw [hR]
  have H0 : Hid (∃ ys, Rz w w b g o cap n ys ∧ sink ys i = R) := Lib.hid ⟨xs, ⟨h, hn, Turns.refl w _⟩, hR⟩
  clear h hn hR
  go_enter Try.func22, Try.ntmps22
  go_wp2
  go_loopw [1, 4] (fun v1 s4 wx => ∃ k : Nat, k < n ∧ v1 = .int .i64 k ∧ Hid (∃ ys, Rz w wx b g o cap n ys ∧ sink ys k = R)) (fun v1 _ _ => n - (intOf v1).toNat)
  case atStart => exact ⟨i, hi, rfl, H0⟩
  case round =>
    clear H0
    obtain ⟨k, hkn, rfl, hK⟩ := hrel
    obtain ⟨ys, hz, hr⟩ := hK.out
    obtain ⟨V, rfl⟩ : ∃ V, V = wr := ⟨_, rfl⟩
    clear hK
    have HZ := Lib.hid hz
    obtain ⟨q, hq⟩ : ∃ q, lowI ys k = q := ⟨_, rfl⟩
    have HQ := Lib.hid hq
    have HR := Lib.hid hr
    clear hz hr hq
    go_wp2_with fail
    refine (lesser_any b g o cap n ys k _ HZ.out.hm HZ.out.ln hkn h64).mono ?_
    rw [HQ.out]
    rintro e w1 ⟨rfl, hb1⟩
    have HZ1 := Lib.hid (HZ.out.call hb1)
    clear hb1 HZ
    by_cases hln : 2 * k + 1 < n
    · have hll : 2 * k + 1 < ys.length := by rw [HZ1.out.ln]; exact hln
      obtain ⟨hl1, hl2, hl3⟩ := low_lt hll
      obtain ⟨a, ha⟩ : ∃ a, low ys k = a := ⟨_, rfl⟩
      have hqa : q = (a : Int) := by rw [← HQ.out, lowI_yes hll, ha]
      rw [ha] at hl1 hl2
      have hr := HR.out
      unfold sink at hr
      rw [dif_pos hll, ha] at hr
      have hz := HZ1.out
      have hln2 := hz.ln
      have hm := hz.hm
      rw [← hln2] at hm
      obtain ⟨g', o', cap', e, hob, hg, h1, h2, hcl, hfz⟩ := hm.at (i := k) (by omega)
      injection e with e1 e2 e3
      injection e1 with e1
      injection e1 with e1 e4
      subst e1 e4 e3
      clear e2 hob hfz
      rw [hln2] at h1 hl2
      have c0 : w1.cell? ⟨b, 0, none⟩ = some (.slice (some ⟨g, o, none⟩) n cap) := (hz.hm.row.cell 0).trans rfl
      obtain ⟨i0, i1, i2⟩ := hcl k (by omega)
      obtain ⟨j0, j1, j2⟩ := hcl a (by omega)
      obtain ⟨x, hx⟩ : ∃ x, gt ys k = x := ⟨_, rfl⟩
      obtain ⟨y, hy⟩ : ∃ y, gt ys a = y := ⟨_, rfl⟩
      rw [hx, hy] at hr
      rw [hx] at i0 i1 i2
      rw [hy] at j0 j1 j2
      have hbV : b < w1.heap.size := hz.hm.row.lt
      have HR2 := Lib.hid hr
      have HLN := Lib.hid hln2
      obtain ⟨lb, hlb⟩ : ∃ lb, decide (lt y x) = lb := ⟨_, rfl⟩
      have HLB := Lib.hid hlb
      have hki : (k : Int) < (n : Int) := by omega
      have hai : (a : Int) < (n : Int) := by omega
      have hdec : decide ((a : Int) < 0) = false := decide_eq_false (by omega)
      have hka : k ≠ a := by omega
      subst hqa
      clear hz hln2 hm hcl hx hy hr hlb ha hll HR
      go_upto_region 1 with fail
      go_region_held3 (fun X => X.cell? ⟨b, 0, none⟩ = some (.slice (some ⟨g, o, none⟩) n cap) ∧ X.cell? ⟨g, o + k * 3, none⟩ = some (.int .i64 x.t) ∧ X.cell? ⟨g, o + k * 3 + 1, none⟩ = some (.int .i64 x.q) ∧ X.cell? ⟨g, o + k * 3 + 2, none⟩ = some (.int .i64 x.a) ∧ X.cell? ⟨g, o + a * 3, none⟩ = some (.int .i64 y.t) ∧ X.cell? ⟨g, o + a * 3 + 1, none⟩ = some (.int .i64 y.q) ∧ X.cell? ⟨g, o + a * 3 + 2, none⟩ = some (.int .i64 y.a))
        (first | exact ⟨c0, i0, i1, i2, j0, j1, j2⟩ | exact ⟨(HB2.out.cell (p := ⟨b, 0, none⟩) hbV).trans c0, (HB2.out.cell (p := ⟨g, o + k * 3, none⟩) hg).trans i0, (HB2.out.cell (p := ⟨g, o + k * 3 + 1, none⟩) hg).trans i1, (HB2.out.cell (p := ⟨g, o + k * 3 + 2, none⟩) hg).trans i2, (HB2.out.cell (p := ⟨g, o + a * 3, none⟩) hg).trans j0, (HB2.out.cell (p := ⟨g, o + a * 3 + 1, none⟩) hg).trans j1, (HB2.out.cell (p := ⟨g, o + a * 3 + 2, none⟩) hg).trans j2⟩ | fail)
        ((
          go_at_call 39
          refine (less_any y x _).mono ?_
          rintro e w2 ⟨rfl, hb2⟩
          rw [HLB.out]
          have HB2 : Hid (Below w1.heap.size w1 w2) := Lib.hid ((show Below w1.heap.size w1 _ from by go_grown).trans (hb2.mono (show Below w1.heap.size w1 _ from by go_grown).size))
          clear hb2))
      all_goals
        clear c0 i0 i1 i2 j0 j1 j2
        have HZ2 := Lib.hid (HZ1.out.call HB2.out)
        cases lb with
        | true =>
          have HY := Lib.hid (show sink (sw ys k a) a = R by have := HR2.out; rw [if_pos (of_decide_eq_true HLB.out)] at this; exact this)
          go_wp2_with fail
          refine (swap_any b g o cap ys k a _ (by rw [HLN.out]; exact HZ2.out.hm) (by rw [HLN.out]; exact hkn) (by rw [HLN.out]; exact hl2) hka).mono ?_
          rintro e w3 ⟨rfl, hm3, ht3⟩
          rw [HLN.out] at hm3
          have HZ3 := Lib.hid (HZ2.out.swap (by rw [sw_len]; exact HLN.out) hm3 ht3)
          clear hm3 ht3
          go_wp2
          go_roundw
          case rel => exact ⟨a, hl2, rfl, Lib.hid ⟨_, HZ3.out, HY.out⟩⟩
          case measure => simp [intOf]; omega
        | false =>
          have HY := Lib.hid (show ys = R by have := HR2.out; rw [if_neg (of_decide_eq_false HLB.out)] at this; exact this)
          go_wp2
          refine bodyPost_ret (results_none rfl _ _ _) rfl ?_
          exact ⟨rfl, by rw [← HY.out]; exact HZ2.out⟩
    · have hll : ¬ 2 * k + 1 < ys.length := by rw [HZ1.out.ln]; exact hln
      have hqa : q = -1 := by rw [← HQ.out, lowI_no hll]
      have HY := Lib.hid (show ys = R by have := HR.out; unfold sink at this; rw [dif_neg hll] at this; exact this)
      subst hqa
      clear hll
      go_upto_region 1 with fail
      go_quiet (fail)
      go_wp2
      refine bodyPost_ret (results_none rfl _ _ _) rfl ?_
      exact ⟨rfl, by rw [← HY.out]; exact HZ1.out.call (below_drewN (Below.refl _ _) _)⟩
end Go.Proofs.Ytbjkeclfcccilaa.Hp
