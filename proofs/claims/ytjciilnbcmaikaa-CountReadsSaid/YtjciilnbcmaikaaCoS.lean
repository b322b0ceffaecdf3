/- The walk of the law CountSums. -/
import Derived.Test.YtjciilnbcmaikaaCoF
import Derived.Test.YtjciilnbcmaikaaBits
import Derived.Test.YtjciilnbcmaikaaOpen3
namespace Go.Proofs.Ytjciilnbcmaikaa.Co
open Go.RowKit Go.Proofs.Ytjciilnbcmaikaa
set_option linter.unusedVariables false
set_option maxRecDepth 100000

def sh (f : Nat → Int) : Array Value := #[.int .i64 (f 0), .int .i64 (f 1), .int .i64 (f 2), .int .i64 (f 3), .int .i64 (f 4), .int .i64 (f 5)]
theorem sh_get (f : Nat → Int) {k : Nat} (hk : k < 6) : (sh f)[k]? = some (.int .i64 (f k)) := by
  rcases (show k = 0 ∨ k = 1 ∨ k = 2 ∨ k = 3 ∨ k = 4 ∨ k = 5 from by omega) with rfl | rfl | rfl | rfl | rfl | rfl <;> rfl
theorem sh_congr {f g : Nat → Int} (h : ∀ i, i < 6 → f i = g i) : sh f = sh g := by
  unfold sh; rw [h 0 (by omega), h 1 (by omega), h 2 (by omega), h 3 (by omega), h 4 (by omega), h 5 (by omega)]
theorem sh_set (f g : Nat → Int) {k : Nat} (hk : k < 6) (v : Int) (hg : g k = v) (ho : ∀ i, i < 6 → i ≠ k → g i = f i) : (sh f).setIfInBounds k (.int .i64 v) = sh g := by
  apply Array.ext (by simp [sh])
  intro i h1 h2
  have h6 : i < 6 := by simpa [sh] using h2
  have e1 := sh_get g h6
  rw [Array.getElem?_eq_getElem h2] at e1
  injection e1 with e1
  rw [e1, Array.getElem_setIfInBounds (by simpa [sh] using h6)]
  by_cases e : k = i
  · subst e; rw [if_pos rfl, hg]
  · rw [if_neg e]
    have e2 := sh_get f h6
    rw [Array.getElem?_eq_getElem (by simpa [sh] using h6)] at e2
    injection e2 with e2
    rw [e2, ho i h6 (fun h => e h.symm)]
def xk (f : Nat → Int) (k : Nat) : Nat → Int := fun i => if i < k then f i / 4 else 0
theorem xk_at (f : Nat → Int) (k : Nat) : xk f (k + 1) k = f k / 4 := if_pos (by omega)
theorem xk_ne (f : Nat → Int) (k i : Nat) (hi : i < 6) (h : i ≠ k) : xk f (k + 1) i = xk f k i := by
  unfold xk
  by_cases e : i < k
  · rw [if_pos e, if_pos (by omega)]
  · rw [if_neg e, if_neg (by omega)]
theorem Own.to {w0 w : World} {L L' : List (Nat × TypeId × Array Value)} (h : Own w0 w L) (e : L = L') : Own w0 w L' := e ▸ h
/-- Of the first k no x is above its y. -/
def blw (f g : Nat → Int) : Nat → Bool
  | 0 => true
  | k + 1 => blw f g k && decide (f k / 4 ≤ g k / 4)
set_option maxHeartbeats 2000000 in
theorem sums_law (f : Nat → Int) (hf : ∀ k, -9223372036854775808 ≤ f k ∧ f k ≤ 9223372036854775807) (g : Nat → Int) (hg : ∀ k, -9223372036854775808 ≤ g k ∧ g k ≤ 9223372036854775807) (w : World) :
    Calls Try.prog 5 #[.agg #[.int .i64 (f 0), .int .i64 (f 1), .int .i64 (f 2), .int .i64 (f 3), .int .i64 (f 4), .int .i64 (f 5)], .agg #[.int .i64 (g 0), .int .i64 (g 1), .int .i64 (g 2), .int .i64 (g 3), .int .i64 (g 4), .int .i64 (g 5)]] w fun e w' => e = .returned (.bool true) ∧ Below w.heap.size w w' := by
  have HF := Lib.hid hf
  have HG := Lib.hid hg
  clear hf hg
  go_enter Try.func5, Try.ntmps5
  go_wp2
  go_loopw [7, 8] (fun b i wr => ∃ k : Nat, k ≤ 6 ∧ i = .int .i64 k ∧ b = .bool (blw f g k) ∧ Hid (Own w wr [(w.heap.size + 3, 26, sh (xk g k)), (w.heap.size + 2, 26, sh (xk f k)), (w.heap.size + 1, 26, sh g), (w.heap.size, 26, sh f)])) (fun _ i _ => 6 - (intOf i).toNat)
  case atStart =>
    refine ⟨0, by omega, rfl, rfl, ?_⟩
    have := ((((Own.start w).made 26 (sh f)).made 26 (sh g)).made 26 (sh fun _ => 0)).made 26 (sh fun _ => 0)
    simp only [World.size_alloc] at this
    exact this
  case round =>
    obtain ⟨k, hk, rfl, rfl, M⟩ := hrel
    by_cases hlt : k < 6
    · have hki : (k : Int) < 6 := by omega
      have c0 : wr.cell? ⟨w.heap.size, k, none⟩ = some (.int .i64 (f k)) := ((M.out.row 3 rfl).cell k).trans (sh_get f hlt)
      have c1 : wr.cell? ⟨w.heap.size + 1, k, none⟩ = some (.int .i64 (g k)) := ((M.out.row 2 rfl).cell k).trans (sh_get g hlt)
      have c2 : wr.cell? ⟨w.heap.size + 2, k, none⟩ = some (.int .i64 (xk f k k)) := ((M.out.row 1 rfl).cell k).trans (sh_get _ hlt)
      have c3 : wr.cell? ⟨w.heap.size + 3, k, none⟩ = some (.int .i64 (xk g k k)) := ((M.out.row 0 rfl).cell k).trans (sh_get _ hlt)
      have f2 := (M.out.row 1 rfl).free k
      have f3 := (M.out.row 0 rfl).free k
      have l2 := (M.out.row 1 rfl).lt
      have l3 := (M.out.row 0 rfl).lt
      obtain ⟨b0, b1⟩ := HF.out k
      obtain ⟨b2, b3⟩ := HG.out k
      go_upto_region 6 with fail
      go_region
      have M2 := Lib.hid (Own.to (Own.drew ((M.out.put 1 rfl k (.int .i64 (f k / 4))).put 0 rfl k (.int .i64 (g k / 4)))) (L' := [(w.heap.size + 3, 26, sh (xk g (k + 1))), (w.heap.size + 2, 26, sh (xk f (k + 1))), (w.heap.size + 1, 26, sh g), (w.heap.size, 26, sh f)]) (by
        simp only [List.set_cons_zero, List.set_cons_succ]
        rw [sh_set (xk g k) (xk g (k + 1)) hlt _ (xk_at g k) (xk_ne g k), sh_set (xk f k) (xk f (k + 1)) hlt _ (xk_at f k) (xk_ne f k)]))
      clear c0 c1 c2 c3 f2 f3 l2 l3 M
      generalize ((wr.setCell ⟨w.heap.size + 1 + 1, k, none⟩ (.int .i64 (f k / 4))).setCell ⟨w.heap.size + 1 + 1 + 1, k, none⟩ (.int .i64 (g k / 4))).drew = W at M2 ⊢
      have c2 : W.cell? ⟨w.heap.size + 1 + 1, k, none⟩ = some (.int .i64 (f k / 4)) := ((M2.out.row 1 rfl).cell k).trans ((sh_get _ hlt).trans (by rw [xk_at]))
      have c3 : W.cell? ⟨w.heap.size + 1 + 1 + 1, k, none⟩ = some (.int .i64 (g k / 4)) := ((M2.out.row 0 rfl).cell k).trans ((sh_get _ hlt).trans (by rw [xk_at]))
      have HX : Hid (blw f g (k + 1) = (blw f g k && decide (f k / 4 ≤ g k / 4))) := rfl
      cases hb : blw f g k with
      | true =>
        rw [hb] at HX
        clear hb
        go_wp2
        go_quiet (fail)
        go_wp2
        go_roundw
        case measure => simp [intOf]; omega
        case rel => exact ⟨k + 1, by omega, by go_num, by rw [HX.out]; simp, M2.out.drewN _⟩
      | false =>
        rw [hb] at HX
        clear hb
        go_wp2
        go_quiet (fail)
        go_wp2
        go_roundw
        case measure => simp [intOf]; omega
        case rel => exact ⟨k + 1, by omega, by go_num, by rw [HX.out]; simp, M2.out.drewN _⟩
    · have e6 : k = 6 := by omega
      have M6 : Hid (Own w wr [(w.heap.size + 3, 26, sh (fun i => g i / 4)), (w.heap.size + 2, 26, sh (fun i => f i / 4))]) := by
        have h := M.out
        rw [e6] at h
        refine Own.to (h.sub (L' := [(w.heap.size + 3, 26, sh (xk g 6)), (w.heap.size + 2, 26, sh (xk f 6))]) (by simp)) ?_
        rw [sh_congr (f := xk g 6) (g := fun i => g i / 4) (fun i hi => if_pos hi), sh_congr (f := xk f 6) (g := fun i => f i / 4) (fun i hi => if_pos hi)]
      have HBW : Hid (decide (f 0 / 4 ≤ g 0 / 4 ∧ f 1 / 4 ≤ g 1 / 4 ∧ f 2 / 4 ≤ g 2 / 4 ∧ f 3 / 4 ≤ g 3 / 4 ∧ f 4 / 4 ≤ g 4 / 4 ∧ f 5 / 4 ≤ g 5 / 4) = blw f g k) := by
        show _ = _
        rw [e6, Bool.eq_iff_iff]
        simp only [blw, decide_eq_true_eq, Bool.and_eq_true]
        constructor
        · rintro ⟨a, b, c, d, e, f⟩; exact ⟨⟨⟨⟨⟨⟨trivial, a⟩, b⟩, c⟩, d⟩, e⟩, f⟩
        · rintro ⟨⟨⟨⟨⟨⟨_, a⟩, b⟩, c⟩, d⟩, e⟩, f⟩; exact ⟨a, b, c, d, e, f⟩
      generalize blw f g k = bb at HBW ⊢
      have hki : ¬ (k : Int) < 6 := by omega
      clear M e6
      have c0 : wr.cell? ⟨w.heap.size + 1 + 1, 0, none⟩ = some (.int .i64 (f 0 / 4)) := (M6.out.row 1 rfl).cell 0
      have c1 : wr.cell? ⟨w.heap.size + 1 + 1, 1, none⟩ = some (.int .i64 (f 1 / 4)) := (M6.out.row 1 rfl).cell 1
      have c2 : wr.cell? ⟨w.heap.size + 1 + 1, 2, none⟩ = some (.int .i64 (f 2 / 4)) := (M6.out.row 1 rfl).cell 2
      have c3 : wr.cell? ⟨w.heap.size + 1 + 1, 3, none⟩ = some (.int .i64 (f 3 / 4)) := (M6.out.row 1 rfl).cell 3
      have c4 : wr.cell? ⟨w.heap.size + 1 + 1, 4, none⟩ = some (.int .i64 (f 4 / 4)) := (M6.out.row 1 rfl).cell 4
      have c5 : wr.cell? ⟨w.heap.size + 1 + 1, 5, none⟩ = some (.int .i64 (f 5 / 4)) := (M6.out.row 1 rfl).cell 5
      have d0 : wr.cell? ⟨w.heap.size + 1 + 1 + 1, 0, none⟩ = some (.int .i64 (g 0 / 4)) := (M6.out.row 0 rfl).cell 0
      have d1 : wr.cell? ⟨w.heap.size + 1 + 1 + 1, 1, none⟩ = some (.int .i64 (g 1 / 4)) := (M6.out.row 0 rfl).cell 1
      have d2 : wr.cell? ⟨w.heap.size + 1 + 1 + 1, 2, none⟩ = some (.int .i64 (g 2 / 4)) := (M6.out.row 0 rfl).cell 2
      have d3 : wr.cell? ⟨w.heap.size + 1 + 1 + 1, 3, none⟩ = some (.int .i64 (g 3 / 4)) := (M6.out.row 0 rfl).cell 3
      have d4 : wr.cell? ⟨w.heap.size + 1 + 1 + 1, 4, none⟩ = some (.int .i64 (g 4 / 4)) := (M6.out.row 0 rfl).cell 4
      have d5 : wr.cell? ⟨w.heap.size + 1 + 1 + 1, 5, none⟩ = some (.int .i64 (g 5 / 4)) := (M6.out.row 0 rfl).cell 5
      have ft : ∀ i, Fit (f i / 4) (g i / 4) := fun i => by have := HF.out i; have := HG.out i; unfold Fit; omega
      have HFT := Lib.hid ft
      clear ft
      go_wp2_with fail
      refine (plus_any _ _ _ _ _ _ _ _ _ _ _ _ _ (HFT.out 0) (HFT.out 1) (HFT.out 2) (HFT.out 3) (HFT.out 4) (HFT.out 5)).mono ?_
      rintro e w1 ⟨rfl, hb⟩
      have M7 := Lib.hid ((M6.out.call hb).made 26 (sh (fun i => f i / 4 + g i / 4)))
      clear hb M6 c0 c1 c2 c3 c4 c5 d0 d1 d2 d3 d4 d5
      go_wp2
      go_loopw [10] (fun i wr => ∃ k : Nat, k ≤ 6 ∧ i = .int .i64 k ∧ Hid (Own w wr [(w1.heap.size, 26, sh (fun i => f i / 4 + g i / 4)), (w.heap.size + 3, 26, sh (fun i => g i / 4)), (w.heap.size + 2, 26, sh (fun i => f i / 4))])) (fun i _ => 6 - (intOf i).toNat)
      case atStart => exact ⟨0, by omega, rfl, M7⟩
      case round =>
        clear M7
        obtain ⟨q, hq, rfl, M⟩ := hrel
        by_cases hlt : q < 6
        · have hqi : (q : Int) < 6 := by omega
          have c0 : wr.cell? ⟨w.heap.size + 1 + 1, q, none⟩ = some (.int .i64 (f q / 4)) := ((M.out.row 2 rfl).cell q).trans (sh_get _ hlt)
          have c1 : wr.cell? ⟨w.heap.size + 1 + 1 + 1, q, none⟩ = some (.int .i64 (g q / 4)) := ((M.out.row 1 rfl).cell q).trans (sh_get _ hlt)
          have c2 : wr.cell? ⟨w1.heap.size, q, none⟩ = some (.int .i64 (f q / 4 + g q / 4)) := ((M.out.row 0 rfl).cell q).trans (sh_get _ hlt)
          have ft := HFT.out q
          unfold Fit at ft
          obtain ⟨l0, u0⟩ := ft
          go_upto_region 12 with fail
          go_quiet (fail)
          go_wp2
          go_roundw
          case measure => simp [intOf]; omega
          case rel => exact ⟨q + 1, by omega, by go_num, M.out.drewN _⟩
        · have hqi : ¬ (q : Int) < 6 := by omega
          have HB := Lib.hid M.out.be
          have M0 := Lib.hid (M.out.drop 1)
          clear M
          go_wp2_with fail
          refine (awake_any _).mono ?_
          rintro e w2 ⟨rfl, hb⟩
          have M2 := Lib.hid (M0.out.call hb)
          clear hb HB M0
          have c0 : w2.cell? ⟨w.heap.size + 1 + 1, 0, none⟩ = some (.int .i64 (f 0 / 4)) := (M2.out.row 1 rfl).cell 0
          have c1 : w2.cell? ⟨w.heap.size + 1 + 1, 1, none⟩ = some (.int .i64 (f 1 / 4)) := (M2.out.row 1 rfl).cell 1
          have c2 : w2.cell? ⟨w.heap.size + 1 + 1, 2, none⟩ = some (.int .i64 (f 2 / 4)) := (M2.out.row 1 rfl).cell 2
          have c3 : w2.cell? ⟨w.heap.size + 1 + 1, 3, none⟩ = some (.int .i64 (f 3 / 4)) := (M2.out.row 1 rfl).cell 3
          have c4 : w2.cell? ⟨w.heap.size + 1 + 1, 4, none⟩ = some (.int .i64 (f 4 / 4)) := (M2.out.row 1 rfl).cell 4
          have c5 : w2.cell? ⟨w.heap.size + 1 + 1, 5, none⟩ = some (.int .i64 (f 5 / 4)) := (M2.out.row 1 rfl).cell 5
          have d0 : w2.cell? ⟨w.heap.size + 1 + 1 + 1, 0, none⟩ = some (.int .i64 (g 0 / 4)) := (M2.out.row 0 rfl).cell 0
          have d1 : w2.cell? ⟨w.heap.size + 1 + 1 + 1, 1, none⟩ = some (.int .i64 (g 1 / 4)) := (M2.out.row 0 rfl).cell 1
          have d2 : w2.cell? ⟨w.heap.size + 1 + 1 + 1, 2, none⟩ = some (.int .i64 (g 2 / 4)) := (M2.out.row 0 rfl).cell 2
          have d3 : w2.cell? ⟨w.heap.size + 1 + 1 + 1, 3, none⟩ = some (.int .i64 (g 3 / 4)) := (M2.out.row 0 rfl).cell 3
          have d4 : w2.cell? ⟨w.heap.size + 1 + 1 + 1, 4, none⟩ = some (.int .i64 (g 4 / 4)) := (M2.out.row 0 rfl).cell 4
          have d5 : w2.cell? ⟨w.heap.size + 1 + 1 + 1, 5, none⟩ = some (.int .i64 (g 5 / 4)) := (M2.out.row 0 rfl).cell 5
          go_wp2_with fail
          refine (below_any _ _ _ _ _ _ _ _ _ _ _ _ _ bb HBW.out).mono ?_
          rintro e w3 ⟨rfl, hb⟩
          have M3 := Lib.hid (M2.out.call hb)
          clear hb M2 c0 c1 c2 c3 c4 c5 d0 d1 d2 d3 d4 d5
          have c0 : w3.cell? ⟨w.heap.size + 1 + 1, 0, none⟩ = some (.int .i64 (f 0 / 4)) := (M3.out.row 1 rfl).cell 0
          have c1 : w3.cell? ⟨w.heap.size + 1 + 1, 1, none⟩ = some (.int .i64 (f 1 / 4)) := (M3.out.row 1 rfl).cell 1
          have c2 : w3.cell? ⟨w.heap.size + 1 + 1, 2, none⟩ = some (.int .i64 (f 2 / 4)) := (M3.out.row 1 rfl).cell 2
          have c3 : w3.cell? ⟨w.heap.size + 1 + 1, 3, none⟩ = some (.int .i64 (f 3 / 4)) := (M3.out.row 1 rfl).cell 3
          have c4 : w3.cell? ⟨w.heap.size + 1 + 1, 4, none⟩ = some (.int .i64 (f 4 / 4)) := (M3.out.row 1 rfl).cell 4
          have c5 : w3.cell? ⟨w.heap.size + 1 + 1, 5, none⟩ = some (.int .i64 (f 5 / 4)) := (M3.out.row 1 rfl).cell 5
          go_wp2_with fail
          refine (below_any _ _ _ _ _ _ _ _ _ _ _ _ _ true (by simp)).mono ?_
          rintro e w4 ⟨rfl, hb⟩
          have M4 := Lib.hid (M3.out.call hb)
          clear hb M3 c0 c1 c2 c3 c4 c5
          go_wp2
          go_ret
          exact ⟨by simp, M4.out.be⟩
end Go.Proofs.Ytjciilnbcmaikaa.Co
