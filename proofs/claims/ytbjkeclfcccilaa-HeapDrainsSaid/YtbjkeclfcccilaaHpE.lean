/- A heap in memory: a thing is brought ahead. -/
import Derived.Test.YtbjkeclfcccilaaHpD
import Derived.Deep.Cut
import Derived.Deep.DeepCutAuto
namespace Go.Proofs.Ytbjkeclfcccilaa.Hp
open Go.RowKit Go.Proofs.Ytbjkeclfcccilaa
set_option linter.unusedVariables false
set_option maxRecDepth 100000
/-- What bringing a thing about holds. -/
structure Rz (w wx : World) (b g o cap n : Nat) (ys : List St) : Prop where
  hm : Hm wx b (.slice (some ⟨g, o, none⟩) n cap) (some g) ys
  ln : ys.length = n
  tr : Turns w wx (fun k => k = g)
theorem Rz.call {w w1 w2 : World} {b g o cap n : Nat} {ys : List St} (h : Rz w w1 b g o cap n ys) (hb : Below w1.heap.size w1 w2) : Rz w w2 b g o cap n ys :=
  ⟨h.hm.call hb, h.ln, h.tr.trans (Turns.of_below hb) (fun _ _ e => by cases e)⟩
theorem Rz.swap {w w1 w2 : World} {b g o cap n : Nat} {ys zs : List St} (h : Rz w w1 b g o cap n ys) (hz : zs.length = n) (hm : Hm w2 b (.slice (some ⟨g, o, none⟩) n cap) (some g) zs) (ht : Turns w1 w2 (fun k => k = g)) : Rz w w2 b g o cap n zs :=
  ⟨hm, hz, h.tr.trans ht (fun _ _ e => e)⟩
set_option maxHeartbeats 4000000 in
theorem rise_any (b g o cap : Nat) (xs : List St) (i : Nat) (w : World) (h : Hm w b (.slice (some ⟨g, o, none⟩) xs.length cap) (some g) xs) (hi : i < xs.length) (h64 : xs.length ≤ 65536) :
    Calls Try.prog 11 #[.pointer (some ⟨b, 0, none⟩), .int .i64 i] w fun e w' => e = .returned (.tuple #[]) ∧ Rz w w' b g o cap xs.length (rise xs i) := by
  obtain ⟨n, hn⟩ : ∃ n, xs.length = n := ⟨_, rfl⟩
  obtain ⟨R, hR⟩ : ∃ R, rise xs i = R := ⟨_, rfl⟩
  rw [hn] at h hi h64 ⊢
  rw [hR]
  have H0 : Hid (∃ ys, Rz w w b g o cap n ys ∧ rise ys i = R) := Lib.hid ⟨xs, ⟨h, hn, Turns.refl w _⟩, hR⟩
  clear h hn hR
  go_enter Try.func11, Try.ntmps11
  go_wp2
  go_loopw [1, 4] (fun v1 s4 wx => ∃ k : Nat, k < n ∧ v1 = .int .i64 k ∧ Hid (∃ ys, Rz w wx b g o cap n ys ∧ rise ys k = R)) (fun v1 _ _ => (intOf v1).toNat)
  case atStart => exact ⟨i, hi, rfl, H0⟩
  case round =>
    clear H0
    obtain ⟨k, hkn, rfl, hK⟩ := hrel
    obtain ⟨ys, hz, hr⟩ := hK.out
    obtain ⟨V, rfl⟩ : ∃ V, V = wr := ⟨_, rfl⟩
    clear hK
    by_cases hk0 : 0 < k
    · have hk1 : (0 : Int) < (k : Int) := by omega
      obtain ⟨a, ha⟩ : ∃ a, (k - 1) / 2 = a := ⟨_, rfl⟩
      have han : a < n := by omega
      have hak : a < k := by omega
      have hq1 : ((k : Int) - 1) / 2 = (a : Int) := by omega
      have hq2 : ((k : Int) - 1).tdiv 2 = (a : Int) := by rw [Int.tdiv_eq_ediv_of_nonneg (by omega)]; exact hq1
      have hki : (k : Int) < (n : Int) := by omega
      have hai : (a : Int) < (n : Int) := by omega
      have hkl : k < ys.length := by rw [hz.ln]; exact hkn
      have hm := hz.hm
      have hln := hz.ln
      rw [← hln] at hm
      obtain ⟨g', o', cap', e, hob, hg, h1, h2, hcl, hfz⟩ := hm.at hkl
      injection e with e1 e2 e3
      injection e1 with e1
      injection e1 with e1 e4
      subst e1 e4 e3
      clear e2 hob hfz
      rw [hln] at h1
      have c0 : V.cell? ⟨b, 0, none⟩ = some (.slice (some ⟨g, o, none⟩) n cap) := (hz.hm.row.cell 0).trans rfl
      obtain ⟨i0, i1, i2⟩ := hcl k hkl
      obtain ⟨j0, j1, j2⟩ := hcl a (by omega)
      obtain ⟨x, hx⟩ : ∃ x, gt ys k = x := ⟨_, rfl⟩
      obtain ⟨y, hy⟩ : ∃ y, gt ys a = y := ⟨_, rfl⟩
      unfold rise at hr
      rw [dif_pos hk0, ha, hx, hy] at hr
      rw [hx] at i0 i1 i2
      rw [hy] at j0 j1 j2
      have HZ := Lib.hid hz
      have HR := Lib.hid hr
      have HLN := Lib.hid hln
      have hbV : b < V.heap.size := hz.hm.row.lt
      clear hz hm hln hcl hx hy hr ha
      obtain ⟨lb, hlb⟩ : ∃ lb, decide (lt x y) = lb := ⟨_, rfl⟩
      have HLB := Lib.hid hlb
      clear hlb
      go_upto_region 2 with fail
      go_region_held3 (fun X => X.cell? ⟨b, 0, none⟩ = some (.slice (some ⟨g, o, none⟩) n cap) ∧ X.cell? ⟨g, o + k * 3, none⟩ = some (.int .i64 x.t) ∧ X.cell? ⟨g, o + k * 3 + 1, none⟩ = some (.int .i64 x.q) ∧ X.cell? ⟨g, o + k * 3 + 2, none⟩ = some (.int .i64 x.a) ∧ X.cell? ⟨g, o + a * 3, none⟩ = some (.int .i64 y.t) ∧ X.cell? ⟨g, o + a * 3 + 1, none⟩ = some (.int .i64 y.q) ∧ X.cell? ⟨g, o + a * 3 + 2, none⟩ = some (.int .i64 y.a))
        (first | exact ⟨c0, i0, i1, i2, j0, j1, j2⟩ | exact ⟨(HB2.out.cell (p := ⟨b, 0, none⟩) hbV).trans c0, (HB2.out.cell (p := ⟨g, o + k * 3, none⟩) hg).trans i0, (HB2.out.cell (p := ⟨g, o + k * 3 + 1, none⟩) hg).trans i1, (HB2.out.cell (p := ⟨g, o + k * 3 + 2, none⟩) hg).trans i2, (HB2.out.cell (p := ⟨g, o + a * 3, none⟩) hg).trans j0, (HB2.out.cell (p := ⟨g, o + a * 3 + 1, none⟩) hg).trans j1, (HB2.out.cell (p := ⟨g, o + a * 3 + 2, none⟩) hg).trans j2⟩ | fail)
        ((
          go_at_call 39
          refine (less_any x y _).mono ?_
          rintro e w2 ⟨rfl, hb2⟩
          rw [HLB.out]
          have HB2 : Hid (Below V.heap.size V w2) := Lib.hid ((show Below V.heap.size V _ from by go_grown).trans (hb2.mono (show Below V.heap.size V _ from by go_grown).size))
          clear hb2))
      all_goals
        clear c0 i0 i1 i2 j0 j1 j2
        have HZ2 := Lib.hid (HZ.out.call HB2.out)
        cases lb with
        | true =>
          have HY := Lib.hid (show rise (sw ys k a) a = R by have := HR.out; rw [if_pos (of_decide_eq_true HLB.out)] at this; exact this)
          go_wp2_with fail
          refine (swap_any b g o cap ys k a _ (by rw [HLN.out]; exact HZ2.out.hm) (by rw [HLN.out]; exact hkn) (by rw [HLN.out]; exact han) (by omega)).mono ?_
          rintro e w3 ⟨rfl, hm3, ht3⟩
          rw [HLN.out] at hm3
          have HZ3 := Lib.hid (HZ2.out.swap (by rw [sw_len]; exact HLN.out) hm3 ht3)
          clear hm3 ht3
          go_wp2
          go_roundw
          case rel => exact ⟨a, han, rfl, Lib.hid ⟨_, HZ3.out, HY.out⟩⟩
          case measure => simp [intOf]; omega
        | false =>
          have HY := Lib.hid (show ys = R by have := HR.out; rw [if_neg (of_decide_eq_false HLB.out)] at this; exact this)
          go_wp2
          refine bodyPost_ret (results_none rfl _ _ _) rfl ?_
          exact ⟨rfl, by rw [← HY.out]; exact HZ2.out⟩
    · obtain rfl : k = 0 := by omega
      have hY : ys = R := by unfold rise at hr; rw [dif_neg (by omega)] at hr; exact hr
      have HY := Lib.hid hY
      have HZ := Lib.hid hz
      clear hz hr hY
      go_wp2
      go_end0
      exact ⟨rfl, by rw [← HY.out]; exact HZ.out⟩
end Go.Proofs.Ytbjkeclfcccilaa.Hp
