/- Runs: Dead. -/
import Derived.Test.YtaimbkikiokenaaRnC
namespace Go.Proofs.Ytaimbkikiokenaa.Rn
open Go.RowKit Go.Proofs.Ytaimbkikiokenaa Go.Proofs.Ytaimbkikiokenaa.Ev Go.Proofs.Ytaimbkikiokenaa.Pa
set_option linter.unusedVariables false
set_option maxRecDepth 100000
theorem dead_no (pe : Option Addr) (st f lt lq la cnt win cap : Int) (b : Bool) (A : Option Addr) (n c : Nat) (w : World) :
    Calls Try.prog 24 #[.agg #[.int .i64 st, .pointer none, .pointer pe, .int .i64 f, .int .i64 lt, .int .i64 lq, .int .i64 la, .bool b], .agg #[.slice A n c, .int .i64 win, .int .i64 cap], .int .i64 cnt] w fun e w' => e = .returned (.bool false) ∧ Below w.heap.size w w' := by
  go_enter Try.func24, Try.ntmps24
  go_wp2_with fail
  have HB := Lib.hid (((Below.refl _ w).alloc (Nat.le_refl _) (.cells #[.int .i64 st, .pointer none, .pointer pe, .int .i64 f, .int .i64 lt, .int .i64 lq, .int .i64 la, .bool b] 52)).alloc (by simp) (.cells #[.slice A n c, .int .i64 win, .int .i64 cap] 44))
  have hR1 := Row.made (w.alloc (.cells #[.int .i64 st, .pointer none, .pointer pe, .int .i64 f, .int .i64 lt, .int .i64 lq, .int .i64 la, .bool b] 52)) 44 #[.slice A n c, .int .i64 win, .int .i64 cap]
  rw [show (w.alloc (.cells #[.int .i64 st, .pointer none, .pointer pe, .int .i64 f, .int .i64 lt, .int .i64 lq, .int .i64 la, .bool b] 52)).heap.size = w.heap.size + 1 by simp] at hR1
  refine (elem_no pe st f lt lq la b _).mono ?_
  rintro e w1 ⟨rfl, hb⟩
  have d0 : w1.cell? ⟨w.heap.size + 1, 0, none⟩ = some (.slice A n c) := (hR1.below hb hR1.lt).is 0 rfl
  have d1 : w1.cell? ⟨w.heap.size + 1, 1, none⟩ = some (.int .i64 win) := (hR1.below hb hR1.lt).is 1 rfl
  have d2 : w1.cell? ⟨w.heap.size + 1, 2, none⟩ = some (.int .i64 cap) := (hR1.below hb hR1.lt).is 2 rfl
  have HB1 := Lib.hid hb
  clear hb hR1
  go_wp2_with fail
  refine (there_any A n c win cap (-1) _).mono ?_
  rw [show decide ((0 : Int) ≤ -1 ∧ (-1 : Int) < n) = false from decide_eq_false (fun h => absurd h.1 (by decide))]
  rintro e w2 ⟨rfl, hb⟩
  have HB2 := Lib.hid hb
  clear hb
  go_wp2
  go_ret
  exact ⟨rfl, HB.out.trans ((HB1.out.trans (HB2.out.mono HB1.out.size)).mono HB.out.size)⟩
set_option maxHeartbeats 1000000 in
theorem dead_yes (pp pe : Option Addr) (st f lt lq la cnt win cap y : Int) (b : Bool) (g o n c k : Nat) (E : Nat → ElV) (r : List (List Value)) (w : World) (h : Ch 2 w w.heap.size pp ([.int .i64 k, .int .i64 y] :: r)) (hE : LE w g o n E) (hn : n ≤ 1000) (hk : k < n) :
    Calls Try.prog 24 #[.agg #[.int .i64 st, .pointer pp, .pointer pe, .int .i64 f, .int .i64 lt, .int .i64 lq, .int .i64 la, .bool b], .agg #[.slice (some ⟨g, o, none⟩) n c, .int .i64 win, .int .i64 cap], .int .i64 cnt] w
      fun e w' => e = .returned (.bool (decide ((E k).mx ≤ cnt) && (b || decide (nxt (negs E) k n < 0)))) ∧ Below w.heap.size w w' := by
  have H := Lib.hid h
  have HE := Lib.hid hE
  clear h hE
  go_enter Try.func24, Try.ntmps24
  go_wp2_with fail
  have HB := Lib.hid (((Below.refl _ w).alloc (Nat.le_refl _) (.cells #[.int .i64 st, .pointer pp, .pointer pe, .int .i64 f, .int .i64 lt, .int .i64 lq, .int .i64 la, .bool b] 52)).alloc (by simp) (.cells #[.slice (some ⟨g, o, none⟩) n c, .int .i64 win, .int .i64 cap] 44))
  have hR0 := (Row.made w 52 #[.int .i64 st, .pointer pp, .pointer pe, .int .i64 f, .int .i64 lt, .int .i64 lq, .int .i64 la, .bool b]).alloc (.cells #[.slice (some ⟨g, o, none⟩) n c, .int .i64 win, .int .i64 cap] 44)
  have hR1 := Row.made (w.alloc (.cells #[.int .i64 st, .pointer pp, .pointer pe, .int .i64 f, .int .i64 lt, .int .i64 lq, .int .i64 la, .bool b] 52)) 44 #[.slice (some ⟨g, o, none⟩) n c, .int .i64 win, .int .i64 cap]
  rw [show (w.alloc (.cells #[.int .i64 st, .pointer pp, .pointer pe, .int .i64 f, .int .i64 lt, .int .i64 lq, .int .i64 la, .bool b] 52)).heap.size = w.heap.size + 1 by simp] at hR1
  refine (elem_yes pp pe st f lt lq la k y b r _ (H.out.below HB.out HB.out.size)).mono ?_
  rintro e w1 ⟨rfl, hb⟩
  have hr0 := hR0.below hb hR0.lt
  have hr1 := hR1.below hb hR1.lt
  have he := (HE.out.call HB.out).call hb
  have HR0 := Lib.hid hr0
  have HR1 := Lib.hid hr1
  have HE1 := Lib.hid he
  have HB1 := Lib.hid (HB.out.trans (hb.mono HB.out.size))
  have d0 : w1.cell? ⟨w.heap.size + 1, 0, none⟩ = some (.slice (some ⟨g, o, none⟩) n c) := hr1.is 0 rfl
  have d1 : w1.cell? ⟨w.heap.size + 1, 1, none⟩ = some (.int .i64 win) := hr1.is 1 rfl
  have d2 : w1.cell? ⟨w.heap.size + 1, 2, none⟩ = some (.int .i64 cap) := hr1.is 2 rfl
  clear hb hR0 hR1 hr0 hr1 he
  go_wp2_with fail
  refine (there_any (some ⟨g, o, none⟩) n c win cap k _).mono ?_
  rw [show decide ((0 : Int) ≤ k ∧ (k : Int) < n) = true from decide_eq_true ⟨by omega, by omega⟩]
  rintro e w2 ⟨rfl, hb⟩
  have hr0 := HR0.out.below hb HR0.out.lt
  have hr1 := HR1.out.below hb HR1.out.lt
  have he := HE1.out.call hb
  have HR02 := Lib.hid hr0
  have HR12 := Lib.hid hr1
  have HE2 := Lib.hid he
  have HB2 := Lib.hid (HB1.out.trans (hb.mono HB1.out.size))
  have e0 : w2.cell? ⟨w.heap.size + 1, 0, none⟩ = some (.slice (some ⟨g, o, none⟩) n c) := hr1.is 0 rfl
  have e1 : w2.cell? ⟨w.heap.size + 1, 1, none⟩ = some (.int .i64 win) := hr1.is 1 rfl
  have e2 : w2.cell? ⟨w.heap.size + 1, 2, none⟩ = some (.int .i64 cap) := hr1.is 2 rfl
  have e5 : w2.cell? ⟨w.heap.size, 5 + 2, none⟩ = some (.bool b) := hr0.is 7 rfl
  have e7 : w2.cell? ⟨w.heap.size, 7, none⟩ = some (.bool b) := hr0.is 7 rfl
  have m4 : w2.cell? ⟨g, o + k * 6 + 4, none⟩ = some (.int .i64 (E k).mx) := he.cell hk (j := 4) (by omega)
  obtain ⟨mx, hmx⟩ : ∃ mx, (E k).mx = mx := ⟨_, rfl⟩
  rw [hmx] at m4
  have HMX := Lib.hid hmx
  have hkk : (0 : Int) ≤ (k : Int) := by omega
  have hkn : (k : Int) < (n : Int) := by omega
  clear hb hr0 hr1 he hmx d0 d1 d2
  by_cases hc : mx ≤ cnt
  · have hd : Hid (decide ((E k).mx ≤ cnt) = true) := by unfold Hid; rw [HMX.out]; exact decide_eq_true hc
    cases b
    · go_wp2_with fail
      refine (next_any g o n c win cap k E _ HE2.out hn ⟨by omega, by omega⟩).mono ?_
      rintro e w3 ⟨rfl, hb⟩
      have HB3 := Lib.hid (HB2.out.trans (hb.mono HB2.out.size))
      clear hb
      go_wp2
      go_ret
      exact ⟨by rw [hd.out]; rfl, HB3.out⟩
    · go_wp2
      go_ret
      exact ⟨by rw [hd.out]; rfl, HB2.out⟩
  · have hd : Hid (decide ((E k).mx ≤ cnt) = false) := by unfold Hid; rw [HMX.out]; exact decide_eq_false hc
    go_wp2
    go_ret
    exact ⟨by rw [hd.out]; rfl, HB2.out⟩
end Go.Proofs.Ytaimbkikiokenaa.Rn
