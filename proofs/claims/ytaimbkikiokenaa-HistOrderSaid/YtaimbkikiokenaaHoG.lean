/- hist.Respects, reckoned. -/
import Derived.Test.YtaimbkikiokenaaHoA
import Derived.Test.YtaimbkikiokenaaHiJs
import Derived.Test.YtaimbkikiokenaaHiI
import Derived.Deep.DeepCutAuto
namespace Go.Proofs.Ytaimbkikiokenaa.Hi
open Go.RowKit Go.Proofs.Ytaimbkikiokenaa Go.Maps
set_option linter.unusedVariables false
set_option maxRecDepth 100000
def respF (last : Sp) : List Sp → Bool
  | [] => true
  | x :: r => if ahd x last = true then false else respF (if last.call < x.call then x else last) r
def respB : List Sp → Bool
  | [] => true
  | x :: r => respF x r
theorem put13 {X : World} {b : Nat} {t : TypeId} {c0 c1 c2 c3 c4 c5 c6 c7 c8 c9 c10 c11 c12 : Value} (r : Row X b t #[c0, c1, c2, c3, c4, c5, c6, c7, c8, c9, c10, c11, c12]) (u0 u1 u2 u3 u4 u5 u6 u7 u8 u9 u10 u11 u12 : Value) :
    Row (((((((((((((X.setCell ⟨b, 0, none⟩ u0).setCell ⟨b, 1, none⟩ u1).setCell ⟨b, 2, none⟩ u2).setCell ⟨b, 3, none⟩ u3).setCell ⟨b, 4, none⟩ u4).setCell ⟨b, 5, none⟩ u5).setCell ⟨b, 6, none⟩ u6).setCell ⟨b, 7, none⟩ u7).setCell ⟨b, 8, none⟩ u8).setCell ⟨b, 9, none⟩ u9).setCell ⟨b, 10, none⟩ u10).setCell ⟨b, 11, none⟩ u11).setCell ⟨b, 12, none⟩ u12) b t #[u0, u1, u2, u3, u4, u5, u6, u7, u8, u9, u10, u11, u12] := by
  simpa using ((((((((((((Row.put r 0 u0).put 1 u1).put 2 u2).put 3 u3).put 4 u4).put 5 u5).put 6 u6).put 7 u7).put 8 u8).put 9 u9).put 10 u10).put 11 u11).put 12 u12
set_option maxHeartbeats 8000000 in
theorem resp_any (A : Option Addr) (n c : Nat) (xs : List Sp) (w : World) (h : Ls w A xs) (hn : xs.length = n) (hnc : n ≤ c) (hc9 : c ≤ 9223372036854775807) (hn9 : n ≤ 1000) :
    Calls Try.prog 50 #[.slice A n c] w fun e w' => e = .returned (.bool (respB xs)) ∧ Below w.heap.size w w' := by
  cases xs with
  | nil =>
    obtain rfl : n = 0 := by simpa using hn.symm
    go_enter Try.func50, Try.ntmps50
    go_wp2
    go_ret
    exact ⟨rfl, by go_grown⟩
  | cons y r =>
    obtain ⟨g, o, rfl, hg, hy⟩ := h 0 y rfl
    have hn1 : r.length + 1 = n := by simpa using hn
    have HN := Lib.hid hn1
    have HH := Lib.hid h
    have HG := Lib.hid hg
    obtain ⟨y0, y1, y2, y3, y4, y5, y6, y7, y8, y9, y10, y11, y12⟩ : w.cell? ⟨g, o, none⟩ = some (.int .i64 y.c) ∧ w.cell? ⟨g, o + 1, none⟩ = some (.int .i64 y.n) ∧ w.cell? ⟨g, o + 2, none⟩ = some (.int .i64 y.call) ∧ w.cell? ⟨g, o + 3, none⟩ = some (.int .i64 y.turn) ∧ w.cell? ⟨g, o + 4, none⟩ = some (.int .i64 y.reply) ∧ w.cell? ⟨g, o + 5, none⟩ = some (.int .i64 y.err) ∧ w.cell? ⟨g, o + 6, none⟩ = some (.int .i64 y.tick) ∧ w.cell? ⟨g, o + 7, none⟩ = some (.int .i64 0) ∧ w.cell? ⟨g, o + 8, none⟩ = some (.int .i64 0) ∧ w.cell? ⟨g, o + 9, none⟩ = some (.int .i64 0) ∧ w.cell? ⟨g, o + 10, none⟩ = some (.int .i64 0) ∧ w.cell? ⟨g, o + 11, none⟩ = some (.int .i64 0) ∧ w.cell? ⟨g, o + 12, none⟩ = some (.int .i64 0) := by
      rw [Nat.zero_mul, Nat.add_zero] at hy
      exact ⟨hy 0 _ rfl, hy 1 _ rfl, hy 2 _ rfl, hy 3 _ rfl, hy 4 _ rfl, hy 5 _ rfl, hy 6 _ rfl, hy 7 _ rfl, hy 8 _ rfl, hy 9 _ rfl, hy 10 _ rfl, hy 11 _ rfl, hy 12 _ rfl⟩
    have hnz : ((n : Int) == 0) = false := by rw [beq_eq_false_iff_ne]; omega
    have hn0 : ¬ ((n : Int) = 0) := by omega
    have hpos : (0 : Int) < (n : Int) := by omega
    clear hy h hg hn1 hn
    have hRB : respB (y :: r) = respF y r := rfl
    rw [hRB]
    clear hRB
    obtain ⟨B, hB⟩ : ∃ B, respF y r = B := ⟨_, rfl⟩
    rw [hB]
    have HB := Lib.hid hB
    clear hB
    have HR0 := Lib.hid (Row.made w 104 #[.int .i64 y.c, .int .i64 y.n, .int .i64 y.call, .int .i64 y.turn, .int .i64 y.reply, .int .i64 y.err, .int .i64 y.tick, .int .i64 0, .int .i64 0, .int .i64 0, .int .i64 0, .int .i64 0, .int .i64 0])
    by_cases hc1 : c = 1
    · subst hc1
      obtain rfl : n = 1 := by omega
      have HBT := Lib.hid (show true = B from by
        have h1 := HN.out
        have h2 : r = [] := List.length_eq_zero_iff.1 (by omega)
        rw [← HB.out, h2]; rfl)
      go_enter Try.func50, Try.ntmps50
      go_wp2
      refine wp_loop_rounds 1 ?_
      rw [rounds_succ]
      go_wp2
      go_ret
      exact ⟨by rw [← HBT.out]; rfl, by go_grown⟩
    · have hc2 : 1 < c := by omega
      have hn3 : (1 : Int) ≤ (n : Int) := by omega
      have hc3 : (1 : Int) ≤ (c : Int) := by omega
      have hc4 : ¬ ((c : Int) = 1) := by omega
      have h1n : 1 ≤ n := by omega
      have h1c : 1 ≤ c := by omega
      go_enter Try.func50, Try.ntmps50
      go_wp2
      obtain ⟨N, hN⟩ : ∃ N, n - 1 = N := ⟨_, rfl⟩
      obtain ⟨C, hC⟩ : ∃ C, c - 1 = C := ⟨_, rfl⟩
      have hNC : N ≤ C := by omega
      have hC9 : C ≤ 9223372036854775807 := by omega
      have hN9 : N ≤ 1000 := by omega
      have HNR := Lib.hid (show r.length = N from by have := HN.out; omega)
      rw [hN, hC]
      clear hN hC hc1 hc2 hn3 hc3 hc4 h1n h1c hnz hn0 hpos hnc hc9 hn9
      have HLW := Lib.hid (show Below w.heap.size w (w.alloc (.cells #[.int .i64 y.c, .int .i64 y.n, .int .i64 y.call, .int .i64 y.turn, .int .i64 y.reply, .int .i64 y.err, .int .i64 y.tick, .int .i64 0, .int .i64 0, .int .i64 0, .int .i64 0, .int .i64 0, .int .i64 0] 104)) from (Below.refl _ w).alloc (Nat.le_refl _) _)
      have HLG : Hid (w.heap.size ≤ w.heap.size) := Lib.hid (Nat.le_refl _)
      generalize w.alloc (.cells #[.int .i64 y.c, .int .i64 y.n, .int .i64 y.call, .int .i64 y.turn, .int .i64 y.reply, .int .i64 y.err, .int .i64 y.tick, .int .i64 0, .int .i64 0, .int .i64 0, .int .i64 0, .int .i64 0, .int .i64 0] 104) = w0 at HR0 HLW ⊢
      obtain ⟨lb, hlb⟩ : ∃ lb, w.heap.size = lb := ⟨_, rfl⟩
      have HLG := Lib.hid (show w.heap.size ≤ lb from by omega)
      rw [hlb] at HR0 ⊢
      clear hlb y0 y1 y2 y3 y4 y5 y6 y7 y8 y9 y10 y11 y12
      go_loopw [2, 5, 15] (fun s2 s5 s15 wr => ∃ k : Nat, k ≤ N ∧ s15 = .int .i64 k ∧ Hid (∃ z : Sp, Row wr lb 104 #[.int .i64 z.c, .int .i64 z.n, .int .i64 z.call, .int .i64 z.turn, .int .i64 z.reply, .int .i64 z.err, .int .i64 z.tick, .int .i64 0, .int .i64 0, .int .i64 0, .int .i64 0, .int .i64 0, .int .i64 0] ∧ Below w.heap.size w wr ∧ respF z (r.drop k) = B)) (fun _ _ s15 _ => N - (intOf s15).toNat)
      case atStart => exact ⟨0, by omega, rfl, y, HR0.out, HLW.out, by rw [List.drop_zero]; exact HB.out⟩
      case round =>
        obtain ⟨k, hk, rfl, hst⟩ := hrel
        obtain ⟨z, hz, hb, hrf⟩ := hst.out
        have HZ := Lib.hid hz
        have HBW := Lib.hid hb
        have HRF := Lib.hid hrf
        clear hst hz hrf HR0 HLW
        by_cases hlt : k < N
        · have hki : (k : Int) < (N : Int) := by omega
          obtain ⟨x, hx⟩ : ∃ x, r[k]? = some x := ⟨r[k]'(by rw [HNR.out]; exact hlt), List.getElem?_eq_getElem _⟩
          obtain ⟨g', o', e1, hg, hc⟩ := (HH.out.call hb) (k + 1) x (by simpa using hx)
          injection e1 with e1
          injection e1 with e1 e2
          subst e1 e2
          obtain ⟨c0, c1, c2, c3, c4, c5, c6, c7, c8, c9, c10, c11, c12⟩ : wr.cell? ⟨g, o + 13 + k * 13, none⟩ = some (.int .i64 x.c) ∧ wr.cell? ⟨g, o + 13 + k * 13 + 1, none⟩ = some (.int .i64 x.n) ∧ wr.cell? ⟨g, o + 13 + k * 13 + 2, none⟩ = some (.int .i64 x.call) ∧ wr.cell? ⟨g, o + 13 + k * 13 + 3, none⟩ = some (.int .i64 x.turn) ∧ wr.cell? ⟨g, o + 13 + k * 13 + 4, none⟩ = some (.int .i64 x.reply) ∧ wr.cell? ⟨g, o + 13 + k * 13 + 5, none⟩ = some (.int .i64 x.err) ∧ wr.cell? ⟨g, o + 13 + k * 13 + 6, none⟩ = some (.int .i64 x.tick) ∧ wr.cell? ⟨g, o + 13 + k * 13 + 7, none⟩ = some (.int .i64 0) ∧ wr.cell? ⟨g, o + 13 + k * 13 + 8, none⟩ = some (.int .i64 0) ∧ wr.cell? ⟨g, o + 13 + k * 13 + 9, none⟩ = some (.int .i64 0) ∧ wr.cell? ⟨g, o + 13 + k * 13 + 10, none⟩ = some (.int .i64 0) ∧ wr.cell? ⟨g, o + 13 + k * 13 + 11, none⟩ = some (.int .i64 0) ∧ wr.cell? ⟨g, o + 13 + k * 13 + 12, none⟩ = some (.int .i64 0) := by
            rw [show o + (k + 1) * 13 = o + 13 + k * 13 by omega] at hc
            exact ⟨hc 0 _ rfl, hc 1 _ rfl, hc 2 _ rfl, hc 3 _ rfl, hc 4 _ rfl, hc 5 _ rfl, hc 6 _ rfl, hc 7 _ rfl, hc 8 _ rfl, hc 9 _ rfl, hc 10 _ rfl, hc 11 _ rfl, hc 12 _ rfl⟩
          have HSTEP := Lib.hid (show (if ahd x z = true then false else respF (if z.call < x.call then x else z) (r.drop (k + 1))) = B from by
            have h1 := HRF.out
            rw [List.drop_eq_getElem_cons (show k < r.length by rw [HNR.out]; exact hlt)] at h1
            have h2 : r[k]'(by rw [HNR.out]; exact hlt) = x := (List.getElem?_eq_some_iff.1 hx).2
            rw [h2] at h1
            exact h1)
          clear hc hg hx hb
          have hzl := HZ.out.lt
          have HB1 := Lib.hid ((Below.refl wr.heap.size wr).alloc (Nat.le_refl _) (.cells #[.int .i64 x.c, .int .i64 x.n, .int .i64 x.call, .int .i64 x.turn, .int .i64 x.reply, .int .i64 x.err, .int .i64 x.tick, .int .i64 0, .int .i64 0, .int .i64 0, .int .i64 0, .int .i64 0, .int .i64 0] 104))
          have HX1 := Lib.hid (Row.made wr 104 #[.int .i64 x.c, .int .i64 x.n, .int .i64 x.call, .int .i64 x.turn, .int .i64 x.reply, .int .i64 x.err, .int .i64 x.tick, .int .i64 0, .int .i64 0, .int .i64 0, .int .i64 0, .int .i64 0, .int .i64 0])
          have HZ1 := Lib.hid (HZ.out.alloc (.cells #[.int .i64 x.c, .int .i64 x.n, .int .i64 x.call, .int .i64 x.turn, .int .i64 x.reply, .int .i64 x.err, .int .i64 x.tick, .int .i64 0, .int .i64 0, .int .i64 0, .int .i64 0, .int .i64 0, .int .i64 0] 104))
          go_upto_region 7 with fail
          generalize wr.alloc (.cells #[.int .i64 x.c, .int .i64 x.n, .int .i64 x.call, .int .i64 x.turn, .int .i64 x.reply, .int .i64 x.err, .int .i64 x.tick, .int .i64 0, .int .i64 0, .int .i64 0, .int .i64 0, .int .i64 0, .int .i64 0] 104) = wA at HB1 HX1 HZ1 ⊢
          have HNE := Lib.hid (show lb ≠ wr.heap.size by omega)
          generalize wr.heap.size = xb at HX1 HNE ⊢
          have a0 : wA.cell? ⟨xb, 0, none⟩ = some (.int .i64 x.c) := (HX1.out.cell 0).trans rfl
          have b0 : wA.cell? ⟨lb, 0, none⟩ = some (.int .i64 z.c) := (HZ1.out.cell 0).trans rfl
          have a1 : wA.cell? ⟨xb, 1, none⟩ = some (.int .i64 x.n) := (HX1.out.cell 1).trans rfl
          have b1 : wA.cell? ⟨lb, 1, none⟩ = some (.int .i64 z.n) := (HZ1.out.cell 1).trans rfl
          have a2 : wA.cell? ⟨xb, 2, none⟩ = some (.int .i64 x.call) := (HX1.out.cell 2).trans rfl
          have b2 : wA.cell? ⟨lb, 2, none⟩ = some (.int .i64 z.call) := (HZ1.out.cell 2).trans rfl
          have a3 : wA.cell? ⟨xb, 3, none⟩ = some (.int .i64 x.turn) := (HX1.out.cell 3).trans rfl
          have b3 : wA.cell? ⟨lb, 3, none⟩ = some (.int .i64 z.turn) := (HZ1.out.cell 3).trans rfl
          have a4 : wA.cell? ⟨xb, 4, none⟩ = some (.int .i64 x.reply) := (HX1.out.cell 4).trans rfl
          have b4 : wA.cell? ⟨lb, 4, none⟩ = some (.int .i64 z.reply) := (HZ1.out.cell 4).trans rfl
          have a5 : wA.cell? ⟨xb, 5, none⟩ = some (.int .i64 x.err) := (HX1.out.cell 5).trans rfl
          have b5 : wA.cell? ⟨lb, 5, none⟩ = some (.int .i64 z.err) := (HZ1.out.cell 5).trans rfl
          have a6 : wA.cell? ⟨xb, 6, none⟩ = some (.int .i64 x.tick) := (HX1.out.cell 6).trans rfl
          have b6 : wA.cell? ⟨lb, 6, none⟩ = some (.int .i64 z.tick) := (HZ1.out.cell 6).trans rfl
          have a7 : wA.cell? ⟨xb, 7, none⟩ = some (.int .i64 0) := (HX1.out.cell 7).trans rfl
          have b7 : wA.cell? ⟨lb, 7, none⟩ = some (.int .i64 0) := (HZ1.out.cell 7).trans rfl
          have a8 : wA.cell? ⟨xb, 8, none⟩ = some (.int .i64 0) := (HX1.out.cell 8).trans rfl
          have b8 : wA.cell? ⟨lb, 8, none⟩ = some (.int .i64 0) := (HZ1.out.cell 8).trans rfl
          have a9 : wA.cell? ⟨xb, 9, none⟩ = some (.int .i64 0) := (HX1.out.cell 9).trans rfl
          have b9 : wA.cell? ⟨lb, 9, none⟩ = some (.int .i64 0) := (HZ1.out.cell 9).trans rfl
          have a10 : wA.cell? ⟨xb, 10, none⟩ = some (.int .i64 0) := (HX1.out.cell 10).trans rfl
          have b10 : wA.cell? ⟨lb, 10, none⟩ = some (.int .i64 0) := (HZ1.out.cell 10).trans rfl
          have a11 : wA.cell? ⟨xb, 11, none⟩ = some (.int .i64 0) := (HX1.out.cell 11).trans rfl
          have b11 : wA.cell? ⟨lb, 11, none⟩ = some (.int .i64 0) := (HZ1.out.cell 11).trans rfl
          have a12 : wA.cell? ⟨xb, 12, none⟩ = some (.int .i64 0) := (HX1.out.cell 12).trans rfl
          have b12 : wA.cell? ⟨lb, 12, none⟩ = some (.int .i64 0) := (HZ1.out.cell 12).trans rfl
          go_wp2_with fail
          refine (ahead_any x z _).mono ?_
          rintro e w2 ⟨rfl, hb2⟩
          have HX2 := Lib.hid (HX1.out.below hb2 HX1.out.lt)
          have HZ2 := Lib.hid (HZ1.out.below hb2 HZ1.out.lt)
          have HB2 := Lib.hid ((HBW.out.trans (HB1.out.mono HBW.out.size)).trans (hb2.mono (HBW.out.trans (HB1.out.mono HBW.out.size)).size))
          clear hb2 HX1 HZ1 HB1 a0 b0 a1 b1 a2 b2 a3 b3 a4 b4 a5 b5 a6 b6 a7 b7 a8 b8 a9 b9 a10 b10 a11 b11 a12 b12 c0 c1 c2 c3 c4 c5 c6 c7 c8 c9 c10 c11 c12
          obtain ⟨d, hd⟩ : ∃ d, ahd x z = d := ⟨_, rfl⟩
          rw [hd] at HSTEP ⊢
          clear hd
          have a0 : w2.cell? ⟨xb, 0, none⟩ = some (.int .i64 x.c) := (HX2.out.cell 0).trans rfl
          have b0 : w2.cell? ⟨lb, 0, none⟩ = some (.int .i64 z.c) := (HZ2.out.cell 0).trans rfl
          have f0 := HZ2.out.free 0
          have a1 : w2.cell? ⟨xb, 1, none⟩ = some (.int .i64 x.n) := (HX2.out.cell 1).trans rfl
          have b1 : w2.cell? ⟨lb, 1, none⟩ = some (.int .i64 z.n) := (HZ2.out.cell 1).trans rfl
          have f1 := HZ2.out.free 1
          have a2 : w2.cell? ⟨xb, 2, none⟩ = some (.int .i64 x.call) := (HX2.out.cell 2).trans rfl
          have b2 : w2.cell? ⟨lb, 2, none⟩ = some (.int .i64 z.call) := (HZ2.out.cell 2).trans rfl
          have f2 := HZ2.out.free 2
          have a3 : w2.cell? ⟨xb, 3, none⟩ = some (.int .i64 x.turn) := (HX2.out.cell 3).trans rfl
          have b3 : w2.cell? ⟨lb, 3, none⟩ = some (.int .i64 z.turn) := (HZ2.out.cell 3).trans rfl
          have f3 := HZ2.out.free 3
          have a4 : w2.cell? ⟨xb, 4, none⟩ = some (.int .i64 x.reply) := (HX2.out.cell 4).trans rfl
          have b4 : w2.cell? ⟨lb, 4, none⟩ = some (.int .i64 z.reply) := (HZ2.out.cell 4).trans rfl
          have f4 := HZ2.out.free 4
          have a5 : w2.cell? ⟨xb, 5, none⟩ = some (.int .i64 x.err) := (HX2.out.cell 5).trans rfl
          have b5 : w2.cell? ⟨lb, 5, none⟩ = some (.int .i64 z.err) := (HZ2.out.cell 5).trans rfl
          have f5 := HZ2.out.free 5
          have a6 : w2.cell? ⟨xb, 6, none⟩ = some (.int .i64 x.tick) := (HX2.out.cell 6).trans rfl
          have b6 : w2.cell? ⟨lb, 6, none⟩ = some (.int .i64 z.tick) := (HZ2.out.cell 6).trans rfl
          have f6 := HZ2.out.free 6
          have a7 : w2.cell? ⟨xb, 7, none⟩ = some (.int .i64 0) := (HX2.out.cell 7).trans rfl
          have b7 : w2.cell? ⟨lb, 7, none⟩ = some (.int .i64 0) := (HZ2.out.cell 7).trans rfl
          have f7 := HZ2.out.free 7
          have a8 : w2.cell? ⟨xb, 8, none⟩ = some (.int .i64 0) := (HX2.out.cell 8).trans rfl
          have b8 : w2.cell? ⟨lb, 8, none⟩ = some (.int .i64 0) := (HZ2.out.cell 8).trans rfl
          have f8 := HZ2.out.free 8
          have a9 : w2.cell? ⟨xb, 9, none⟩ = some (.int .i64 0) := (HX2.out.cell 9).trans rfl
          have b9 : w2.cell? ⟨lb, 9, none⟩ = some (.int .i64 0) := (HZ2.out.cell 9).trans rfl
          have f9 := HZ2.out.free 9
          have a10 : w2.cell? ⟨xb, 10, none⟩ = some (.int .i64 0) := (HX2.out.cell 10).trans rfl
          have b10 : w2.cell? ⟨lb, 10, none⟩ = some (.int .i64 0) := (HZ2.out.cell 10).trans rfl
          have f10 := HZ2.out.free 10
          have a11 : w2.cell? ⟨xb, 11, none⟩ = some (.int .i64 0) := (HX2.out.cell 11).trans rfl
          have b11 : w2.cell? ⟨lb, 11, none⟩ = some (.int .i64 0) := (HZ2.out.cell 11).trans rfl
          have f11 := HZ2.out.free 11
          have a12 : w2.cell? ⟨xb, 12, none⟩ = some (.int .i64 0) := (HX2.out.cell 12).trans rfl
          have b12 : w2.cell? ⟨lb, 12, none⟩ = some (.int .i64 0) := (HZ2.out.cell 12).trans rfl
          have f12 := HZ2.out.free 12
          cases d with
          | true =>
            have HT := Lib.hid (show false = B from HSTEP.out)
            go_wp2
            go_ret
            exact ⟨by rw [← HT.out]; rfl, HB2.out⟩
          | false =>
            by_cases hcl : z.call < x.call
            · have HT := Lib.hid (show respF x (r.drop (k + 1)) = B from by
                have h1 := HSTEP.out
                rw [if_neg (by decide), if_pos hcl] at h1
                exact h1)
              have HP := Lib.hid (put13 HZ2.out (.int .i64 x.c) (.int .i64 x.n) (.int .i64 x.call) (.int .i64 x.turn) (.int .i64 x.reply) (.int .i64 x.err) (.int .i64 x.tick) (.int .i64 0) (.int .i64 0) (.int .i64 0) (.int .i64 0) (.int .i64 0) (.int .i64 0))
              have HBE := Lib.hid ((((((((((((((HB2.out.setCell (p := ⟨lb, 0, none⟩) HLG.out (.int .i64 x.c)).setCell (p := ⟨lb, 1, none⟩) HLG.out (.int .i64 x.n)).setCell (p := ⟨lb, 2, none⟩) HLG.out (.int .i64 x.call)).setCell (p := ⟨lb, 3, none⟩) HLG.out (.int .i64 x.turn)).setCell (p := ⟨lb, 4, none⟩) HLG.out (.int .i64 x.reply)).setCell (p := ⟨lb, 5, none⟩) HLG.out (.int .i64 x.err)).setCell (p := ⟨lb, 6, none⟩) HLG.out (.int .i64 x.tick)).setCell (p := ⟨lb, 7, none⟩) HLG.out (.int .i64 0)).setCell (p := ⟨lb, 8, none⟩) HLG.out (.int .i64 0)).setCell (p := ⟨lb, 9, none⟩) HLG.out (.int .i64 0)).setCell (p := ⟨lb, 10, none⟩) HLG.out (.int .i64 0)).setCell (p := ⟨lb, 11, none⟩) HLG.out (.int .i64 0)).setCell (p := ⟨lb, 12, none⟩) HLG.out (.int .i64 0)))
              have hne : xb ≠ lb := fun e => HNE.out e.symm
              go_wp2
              go_roundw
              case rel => exact ⟨k + 1, by omega, by go_num, x, HP.out, HBE.out, HT.out⟩
              case measure => simp [intOf]; omega
            · have HT := Lib.hid (show respF z (r.drop (k + 1)) = B from by
                have h1 := HSTEP.out
                rw [if_neg (by decide), if_neg hcl] at h1
                exact h1)
              go_wp2
              go_roundw
              case rel => exact ⟨k + 1, by omega, by go_num, z, HZ2.out, HB2.out, HT.out⟩
              case measure => simp [intOf]; omega
        · obtain rfl : k = N := by omega
          have hki : ¬ (k : Int) < (k : Int) := by omega
          have HT := Lib.hid (show true = B from by
            have h1 := HRF.out
            rw [List.drop_of_length_le (by rw [HNR.out]; omega)] at h1
            exact h1)
          clear hlt
          go_wp2
          go_ret
          exact ⟨by rw [← HT.out]; rfl, HBW.out⟩
end Go.Proofs.Ytaimbkikiokenaa.Hi
