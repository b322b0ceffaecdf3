/- Texts put together: PsA, PsB, PsC, PsD, PsE. -/
import Derived.Test.YtopbildpeojgoaaCkA
import Derived.Test.YtopbildpeojgoaaSchI
import Derived.Deep.RegionLaw
import Derived.Deep.Cut
import Derived.Deep.DeepCutAuto
section
namespace Go.Proofs.Ytopbildpeojgoaa.Ck
open Go.RowKit Go.Proofs.Ytopbildpeojgoaa Go.Proofs.Ytopbildpeojgoaa.Sch Go.Proofs.Ytopbildpeojgoaa.Ty
set_option linter.unusedVariables false
set_option maxRecDepth 100000
theorem ba_ne {x y : ByteArray} (h : x ≠ y) : (x.toList == y.toList) = false := by
  cases hb : (x.toList == y.toList) with
  | false => rfl
  | true =>
    exfalso
    apply h
    have := eq_of_beq hb
    rw [toList_data, toList_data] at this
    cases x; cases y
    congr 1
    exact Array.ext' this
set_option maxHeartbeats 2000000 in
theorem eqs_any (v1 v2 : Value) (L1 L2 : List ByteArray) (w : World) (h1 : SL w w.heap.size v1 L1) (h2 : SL w w.heap.size v2 L2) (hl : L1.length = L2.length) (r : Bool) (hr : r = true ↔ L1 = L2) :
    Calls Try.prog 160 #[v1, v2] w fun e w' => e = .returned (.bool r) ∧ Below w.heap.size w w' := by
  obtain ⟨A1, c1, rfl, a1, a2, a3⟩ := h1
  obtain ⟨A2, c2, rfl, b1, b2, b3⟩ := h2
  obtain ⟨n, hn⟩ : ∃ n, L1.length = n := ⟨_, rfl⟩
  have hn2 : L2.length = n := by rw [← hl, hn]
  rw [hn] at a1 ⊢
  rw [hn2] at b1 ⊢
  have H3 := Lib.hid a3
  have B3 := Lib.hid b3
  have HN := Lib.hid hn
  have HN2 := Lib.hid hn2
  have HR := Lib.hid hr
  clear a3 b3 hn hn2 hl hr
  go_enter Try.func160, Try.ntmps160
  go_wp2
  go_loopw [13] (fun s wr => ∃ k : Nat, k ≤ n ∧ s = .int .i64 k ∧ Hid (Below w.heap.size w wr) ∧ Hid (∀ j, j < k → L1[j]? = L2[j]?)) (fun s _ => n - (intOf s).toNat)
  case atStart => exact ⟨0, by omega, rfl, Below.refl _ _, fun j hj => by omega⟩
  case round =>
    obtain ⟨k, hk, rfl, hb, hno⟩ := hrel
    by_cases hlt : k < n
    · obtain ⟨g1, o1, rfl, hg1, d1⟩ := H3.out k (by rw [HN.out]; exact hlt)
      obtain ⟨g2, o2, rfl, hg2, d2⟩ := B3.out k (by rw [HN2.out]; exact hlt)
      have d1 := (hb.out.cell (p := ⟨g1, o1 + k, none⟩) hg1).trans d1
      have d2 := (hb.out.cell (p := ⟨g2, o2 + k, none⟩) hg2).trans d2
      have hk1 : L1[k]? = some (L1[k]'(by rw [HN.out]; exact hlt)) := List.getElem?_eq_getElem _
      have hk2 : L2[k]? = some (L2[k]'(by rw [HN2.out]; exact hlt)) := List.getElem?_eq_getElem _
      obtain ⟨x, hx⟩ : ∃ x, L1[k]'(by rw [HN.out]; exact hlt) = x := ⟨_, rfl⟩
      obtain ⟨y, hy⟩ : ∃ y, L2[k]'(by rw [HN2.out]; exact hlt) = y := ⟨_, rfl⟩
      rw [hx] at d1 hk1
      rw [hy] at d2 hk2
      have HK1 := Lib.hid hk1
      have HK2 := Lib.hid hk2
      have hkz : (k : Int) < (n : Int) := by omega
      have hkc1 : k < c1 := by omega
      have hkc2 : k < c2 := by omega
      clear hx hy hk1 hk2
      by_cases hxy : x = y
      · subst hxy
        have HXY : Hid (∀ j, j < k + 1 → L1[j]? = L2[j]?) := Lib.hid (fun j hj => by
          rcases Nat.lt_or_ge j k with h | h
          · exact hno.out j h
          · obtain rfl : j = k := by omega
            rw [HK1.out, HK2.out])
        go_upto_region 6 with fail
        go_region
        all_goals
          go_wp2
          go_roundw
          case rel => exact ⟨k + 1, by omega, by go_num, by first | exact hb.out | exact hb.out.drew, HXY.out⟩
          case measure => simp [intOf]; omega
      · have hbe := ba_ne hxy
        have hrf : r = false := by
          cases hb2 : r with
          | false => rfl
          | true =>
            exfalso
            have := HR.out.1 hb2
            have e1 := HK1.out
            rw [this, HK2.out] at e1
            injection e1 with e1
            exact hxy e1.symm
        subst hrf
        go_upto_region 6 with fail
        go_region
        all_goals
          go_wp2
          go_ret
          exact ⟨rfl, by first | exact hb.out | exact hb.out.drew⟩
    · obtain rfl : k = n := by omega
      have hrt : r = true := HR.out.2 (List.ext_getElem? fun j => by
        rcases Nat.lt_or_ge j k with h | h
        · exact hno.out j h
        · rw [List.getElem?_eq_none (by rw [HN.out]; exact h), List.getElem?_eq_none (by rw [HN2.out]; exact h)])
      subst hrt
      clear hlt
      go_wp2
      go_ret
      exact ⟨rfl, hb.out⟩
set_option maxHeartbeats 2000000 in
theorem eqn_same (v1 v2 : Value) (L : List Nd) (w : World) (h1 : Ns w w.heap.size v1 L) (h2 : Ns w w.heap.size v2 L) :
    Calls Try.prog 201 #[v1, v2] w fun e w' => e = .returned (.bool true) ∧ Below w.heap.size w w' := by
  obtain ⟨A1, c1, rfl, a1, a2, a3⟩ := h1
  obtain ⟨A2, c2, rfl, b1, b2, b3⟩ := h2
  obtain ⟨n, hn⟩ : ∃ n, L.length = n := ⟨_, rfl⟩
  rw [hn] at a1 b1 ⊢
  have H3 := Lib.hid a3
  have B3 := Lib.hid b3
  have HN := Lib.hid hn
  clear a3 b3 hn
  go_enter Try.func201, Try.ntmps201
  go_wp2
  go_loopw [13] (fun s wr => ∃ k : Nat, k ≤ n ∧ s = .int .i64 k ∧ Hid (Below w.heap.size w wr)) (fun s _ => n - (intOf s).toNat)
  case atStart => exact ⟨0, by omega, rfl, Below.refl _ _⟩
  case round =>
    obtain ⟨k, hk, rfl, hb⟩ := hrel
    by_cases hlt : k < n
    · obtain ⟨g1, o1, rfl, hg1, d1⟩ := H3.out k (by rw [HN.out]; exact hlt)
      obtain ⟨g2, o2, rfl, hg2, d2⟩ := B3.out k (by rw [HN.out]; exact hlt)
      obtain ⟨⟨xo, xk, xi, xs, xb, xv, xf⟩, hx⟩ : ∃ x, L[k]'(by rw [HN.out]; exact hlt) = x := ⟨_, rfl⟩
      rw [hx] at d1 d2
      have p0 := (hb.out.cell (p := ⟨g1, o1 + k * 7, none⟩) hg1).trans (d1 0 _ rfl)
      have p1 := (hb.out.cell (p := ⟨g1, o1 + k * 7 + 1, none⟩) hg1).trans (d1 1 _ rfl)
      have p2 := (hb.out.cell (p := ⟨g1, o1 + k * 7 + 2, none⟩) hg1).trans (d1 2 _ rfl)
      have p3 := (hb.out.cell (p := ⟨g1, o1 + k * 7 + 3, none⟩) hg1).trans (d1 3 _ rfl)
      have p4 := (hb.out.cell (p := ⟨g1, o1 + k * 7 + 4, none⟩) hg1).trans (d1 4 _ rfl)
      have p5 := (hb.out.cell (p := ⟨g1, o1 + k * 7 + 5, none⟩) hg1).trans (d1 5 _ rfl)
      have p6 := (hb.out.cell (p := ⟨g1, o1 + k * 7 + 6, none⟩) hg1).trans (d1 6 _ rfl)
      have q0 := (hb.out.cell (p := ⟨g2, o2 + k * 7, none⟩) hg2).trans (d2 0 _ rfl)
      have q1 := (hb.out.cell (p := ⟨g2, o2 + k * 7 + 1, none⟩) hg2).trans (d2 1 _ rfl)
      have q2 := (hb.out.cell (p := ⟨g2, o2 + k * 7 + 2, none⟩) hg2).trans (d2 2 _ rfl)
      have q3 := (hb.out.cell (p := ⟨g2, o2 + k * 7 + 3, none⟩) hg2).trans (d2 3 _ rfl)
      have q4 := (hb.out.cell (p := ⟨g2, o2 + k * 7 + 4, none⟩) hg2).trans (d2 4 _ rfl)
      have q5 := (hb.out.cell (p := ⟨g2, o2 + k * 7 + 5, none⟩) hg2).trans (d2 5 _ rfl)
      have q6 := (hb.out.cell (p := ⟨g2, o2 + k * 7 + 6, none⟩) hg2).trans (d2 6 _ rfl)
      have hkz : (k : Int) < (n : Int) := by omega
      have hkc1 : k < c1 := by omega
      have hkc2 : k < c2 := by omega
      clear hx d1 d2
      go_upto_region 6 with fail
      go_region
      all_goals
        go_wp2
        go_roundw
        case rel => exact ⟨k + 1, by omega, by go_num, by first | exact hb.out | exact hb.out.drew⟩
        case measure => simp [intOf]; omega
    · obtain rfl : k = n := by omega
      clear hlt
      go_wp2
      go_ret
      exact ⟨rfl, hb.out⟩
theorem tsame_same (v1 v2 : Value) (L : List Nd) (w : World) (h1 : Ns w w.heap.size v1 L) (h2 : Ns w w.heap.size v2 L) :
    Calls Try.prog 161 #[v1, v2] w fun e w' => e = .returned (.bool true) ∧ Below w.heap.size w w' := by
  have H := Lib.hid (eqn_same v1 v2 L w h1 h2)
  obtain ⟨A1, c1, rfl, a1, a2, a3⟩ := h1
  obtain ⟨A2, c2, rfl, b1, b2, b3⟩ := h2
  clear a3 b3
  go_enter Try.func161, Try.ntmps161
  go_wp2_with fail
  refine H.out.mono ?_
  rintro e w1 ⟨rfl, hb⟩
  go_wp2
  go_ret
  exact ⟨rfl, hb⟩
end Go.Proofs.Ytopbildpeojgoaa.Ck
end

section
namespace Go.Proofs.Ytopbildpeojgoaa.Ck
open Go.RowKit Go.Proofs.Ytopbildpeojgoaa Go.Proofs.Ytopbildpeojgoaa.Sch Go.Proofs.Ytopbildpeojgoaa.Ty
set_option linter.unusedVariables false
set_option maxRecDepth 100000
set_option maxHeartbeats 4000000 in
theorem selem_any (v : ByteArray) (tv1 tv2 pv1 pv2 : Value) (neg : Bool) (mn mx : Int) (L1 L2 : List ByteArray) (P : List Nd) (w : World) (h1 : SL w w.heap.size tv1 L1) (h2 : SL w w.heap.size tv2 L2) (p1 : Ns w w.heap.size pv1 P) (p2 : Ns w w.heap.size pv2 P) (hl : L1.length = L2.length) (r : Bool) (hr : r = true ↔ L1 = L2) :
    Calls Try.prog 106 #[.agg #[.string v, tv1, .bool neg, .int .i64 mn, .int .i64 mx, pv1], .agg #[.string v, tv2, .bool neg, .int .i64 mn, .int .i64 mx, pv2]] w fun e w' => e = .returned (.bool r) ∧ Below w.heap.size w w' := by
  have HS1 := Lib.hid h1
  have HS2 := Lib.hid h2
  have HP1 := Lib.hid p1
  have HP2 := Lib.hid p2
  obtain ⟨A1, c1, rfl, _, _, _⟩ := h1
  obtain ⟨A2, c2, rfl, _, _, _⟩ := h2
  obtain ⟨B1, d1, rfl, _, _, _⟩ := p1
  obtain ⟨B2, d2, rfl, _, _, _⟩ := p2
  have HE0 := Lib.hid (fun X (h : Below w.heap.size w X) => eqs_any _ _ L1 L2 X (HS1.out.below h h.size) (HS2.out.below h h.size) hl r hr)
  have HP0 := Lib.hid (fun X (h : Below w.heap.size w X) => tsame_same _ _ P X (HP1.out.below h h.size) (HP2.out.below h h.size))
  obtain ⟨n1, hn1⟩ : ∃ n, L1.length = n := ⟨_, rfl⟩
  obtain ⟨n2, hn2⟩ : ∃ n, L2.length = n := ⟨_, rfl⟩
  obtain ⟨n3, hn3⟩ : ∃ n, P.length = n := ⟨_, rfl⟩
  rw [hn1] at HE0 ⊢
  rw [hn2] at HE0 ⊢
  rw [hn3] at HP0 ⊢
  clear hl hn1 hn2 hn3 HS1 HS2 HP1 HP2
  obtain ⟨W, hW⟩ : ∃ W, (w.alloc (.cells #[.string v, .slice A1 n1 c1, .bool neg, .int .i64 mn, .int .i64 mx, .slice B1 n3 d1] 73)).alloc (.cells #[.string v, .slice A2 n2 c2, .bool neg, .int .i64 mn, .int .i64 mx, .slice B2 n3 d2] 73) = W := ⟨_, rfl⟩
  have hX : Below w.heap.size w W := by rw [← hW]; exact ((Below.refl _ w).alloc (Nat.le_refl _) _).alloc (by simp) _
  have R1 : Hid (Row W w.heap.size 73 #[.string v, .slice A1 n1 c1, .bool neg, .int .i64 mn, .int .i64 mx, .slice B1 n3 d1]) := Lib.hid (by rw [← hW]; exact (Row.made w _ _).alloc _)
  have R2 : Hid (Row W (w.heap.size + 1) 73 #[.string v, .slice A2 n2 c2, .bool neg, .int .i64 mn, .int .i64 mx, .slice B2 n3 d2]) := Lib.hid (by rw [← hW]; exact row_at (by simp) _ _)
  have HX := Lib.hid hX
  have HE := Lib.hid (HE0.out W hX)
  have x0 : W.cell? ⟨w.heap.size, 0, none⟩ = some (.string v) := (R1.out.cell 0).trans rfl
  have x1 : W.cell? ⟨w.heap.size, 1, none⟩ = some (.slice A1 n1 c1) := (R1.out.cell 1).trans rfl
  have x2 : W.cell? ⟨w.heap.size, 2, none⟩ = some (.bool neg) := (R1.out.cell 2).trans rfl
  have x3 : W.cell? ⟨w.heap.size, 3, none⟩ = some (.int .i64 mn) := (R1.out.cell 3).trans rfl
  have x4 : W.cell? ⟨w.heap.size, 4, none⟩ = some (.int .i64 mx) := (R1.out.cell 4).trans rfl
  have y0 : W.cell? ⟨w.heap.size + 1, 0, none⟩ = some (.string v) := (R2.out.cell 0).trans rfl
  have y1 : W.cell? ⟨w.heap.size + 1, 1, none⟩ = some (.slice A2 n2 c2) := (R2.out.cell 1).trans rfl
  have y2 : W.cell? ⟨w.heap.size + 1, 2, none⟩ = some (.bool neg) := (R2.out.cell 2).trans rfl
  have y3 : W.cell? ⟨w.heap.size + 1, 3, none⟩ = some (.int .i64 mn) := (R2.out.cell 3).trans rfl
  have y4 : W.cell? ⟨w.heap.size + 1, 4, none⟩ = some (.int .i64 mx) := (R2.out.cell 4).trans rfl
  clear hX hr
  go_enter Try.func106, Try.ntmps106
  go_wp2_with fail
  refine HE.out.mono ?_
  rintro e w1 ⟨rfl, hb1⟩
  have HB1 := Lib.hid (HX.out.trans (hb1.mono HX.out.size))
  clear x0 x1 x2 x3 x4 y0 y1 y2 y3 y4
  cases r with
  | false =>
    clear hb1
    go_wp2
    go_ret
    exact ⟨rfl, HB1.out⟩
  | true =>
    have R11 := Row.below R1.out hb1 R1.out.lt
    have R21 := Row.below R2.out hb1 R2.out.lt
    have x5 : w1.cell? ⟨w.heap.size, 5, none⟩ = some (.slice B1 n3 d1) := (R11.cell 5).trans rfl
    have y5 : w1.cell? ⟨w.heap.size + 1, 5, none⟩ = some (.slice B2 n3 d2) := (R21.cell 5).trans rfl
    have HT := Lib.hid (HP0.out w1 HB1.out)
    clear hb1 R11 R21
    go_wp2_with fail
    refine HT.out.mono ?_
    rintro e w2 ⟨rfl, hb2⟩
    have HB2 := Lib.hid (HB1.out.trans (hb2.mono HB1.out.size))
    clear hb2 x5 y5
    go_wp2
    go_ret
    exact ⟨rfl, HB2.out⟩
end Go.Proofs.Ytopbildpeojgoaa.Ck
end

section
namespace Go.Proofs.Ytopbildpeojgoaa.Ck
open Go.RowKit Go.Proofs.Ytopbildpeojgoaa Go.Proofs.Ytopbildpeojgoaa.Sch Go.Proofs.Ytopbildpeojgoaa.Ty
set_option linter.unusedVariables false
set_option maxRecDepth 100000
/-- Two elements that are alike but for what their types are called. -/
def Like (a b : Qe) : Prop := a.v = b.v ∧ a.neg = b.neg ∧ a.mn = b.mn ∧ a.mx = b.mx ∧ a.pr = b.pr ∧ a.ts.length = b.ts.length
set_option maxHeartbeats 4000000 in
theorem eqf_any (v1 v2 : Value) (es1 es2 : List Qe) (w : World) (h1 : Qs w w.heap.size v1 es1) (h2 : Qs w w.heap.size v2 es2) (hl : es1.length = es2.length) (hal : ∀ k (a : k < es1.length) (b : k < es2.length), Like es1[k] es2[k]) (r : Bool) (hr : r = true ↔ ∀ k (a : k < es1.length) (b : k < es2.length), es1[k].ts = es2[k].ts) :
    Calls Try.prog 105 #[v1, v2, .func (.func 106) #[] #[]] w fun e w' => e = .returned (.bool r) ∧ Below w.heap.size w w' := by
  have HQ1 := Lib.hid h1
  have HQ2 := Lib.hid h2
  obtain ⟨A1, c1, rfl, a1, a2, _⟩ := h1
  obtain ⟨A2, c2, rfl, b1, b2, _⟩ := h2
  obtain ⟨n, hn⟩ : ∃ n, es1.length = n := ⟨_, rfl⟩
  have hn2 : es2.length = n := by rw [← hl, hn]
  rw [hn] at a1 HQ1 ⊢
  rw [hn2] at b1 HQ2 ⊢
  have HN := Lib.hid hn
  have HN2 := Lib.hid hn2
  have HR := Lib.hid hr
  have HAL := Lib.hid hal
  clear hn hn2 hl hr hal
  go_enter Try.func105, Try.ntmps105
  go_wp2
  go_loopw [17] (fun s wr => ∃ k : Nat, k ≤ n ∧ s = .int .i64 k ∧ Hid (Below w.heap.size w wr) ∧ Hid (∀ j (a : j < es1.length) (b : j < es2.length), j < k → es1[j].ts = es2[j].ts)) (fun s _ => n - (intOf s).toNat)
  case atStart => exact ⟨0, by omega, rfl, Below.refl _ _, fun j a b hj => by omega⟩
  case round =>
    obtain ⟨k, hk, rfl, hb, hno⟩ := hrel
    by_cases hlt : k < n
    · have hk1 : k < es1.length := by rw [HN.out]; exact hlt
      have hk2 : k < es2.length := by rw [HN2.out]; exact hlt
      obtain ⟨B1, d1, e1, _, _, h3⟩ := HQ1.out.below hb.out hb.out.size
      injection e1 with e1 e2 e3
      subst e1 e3
      clear e2
      obtain ⟨B2, d2, e1, _, _, h4⟩ := HQ2.out.below hb.out hb.out.size
      injection e1 with e1 e2 e3
      subst e1 e3
      clear e2
      obtain ⟨g1, o1, tv1, pv1, rfl, hg1, x0, x1, x2, x3, x4, x5, hs1, hp1⟩ := h3 k hk1
      obtain ⟨g2, o2, tv2, pv2, rfl, hg2, y0, y1, y2, y3, y4, y5, hs2, hp2⟩ := h4 k hk2
      obtain ⟨l1, l2, l3, l4, l5, l6⟩ := HAL.out k hk1 hk2
      have hkz : (k : Int) < (n : Int) := by omega
      have hkc1 : k < c1 := by omega
      have hkc2 : k < c2 := by omega
      rw [← l1] at y0
      rw [← l2] at y2
      rw [← l3] at y3
      rw [← l4] at y4
      rw [← l5] at hp2
      obtain ⟨q, hq⟩ : ∃ q : Bool, q = true ↔ es1[k].ts = es2[k].ts := by
        by_cases h : es1[k].ts = es2[k].ts
        · exact ⟨true, ⟨fun _ => h, fun _ => rfl⟩⟩
        · exact ⟨false, ⟨fun x => absurd x (by decide), fun x => absurd x h⟩⟩
      have HQQ := Lib.hid hq
      have HSE := Lib.hid (fun X (h : Below wr.heap.size wr X) => selem_any es1[k].v tv1 tv2 pv1 pv2 es1[k].neg es1[k].mn es1[k].mx es1[k].ts es2[k].ts es1[k].pr X (hs1.below h h.size) (hs2.below h h.size) (hp1.below h h.size) (hp2.below h h.size) l6 q hq)
      obtain ⟨ev, hev⟩ : ∃ x, es1[k].v = x := ⟨_, rfl⟩
      obtain ⟨en, hen⟩ : ∃ x, es1[k].neg = x := ⟨_, rfl⟩
      obtain ⟨ea, hea⟩ : ∃ x, es1[k].mn = x := ⟨_, rfl⟩
      obtain ⟨eb, heb⟩ : ∃ x, es1[k].mx = x := ⟨_, rfl⟩
      rw [hev] at x0 y0 HSE
      rw [hen] at x2 y2 HSE
      rw [hea] at x3 y3 HSE
      rw [heb] at x4 y4 HSE
      obtain ⟨tA1, tc1, rfl, _, _, _⟩ := hs1
      obtain ⟨tA2, tc2, rfl, _, _, _⟩ := hs2
      obtain ⟨pA1, pc1, rfl, _, _, _⟩ := hp1
      obtain ⟨pA2, pc2, rfl, _, _, _⟩ := hp2
      obtain ⟨m1, hm1⟩ : ∃ x, es1[k].ts.length = x := ⟨_, rfl⟩
      obtain ⟨m2, hm2⟩ : ∃ x, es2[k].ts.length = x := ⟨_, rfl⟩
      obtain ⟨m3, hm3⟩ : ∃ x, es1[k].pr.length = x := ⟨_, rfl⟩
      rw [hm1] at x1 HSE
      rw [hm2] at y1 HSE
      rw [hm3] at x5 y5 HSE
      clear h3 h4 l1 l2 l3 l4 l5 l6 hq hev hen hea heb hm1 hm2 hm3
      go_wp2_with fail
      refine (HSE.out _ (by go_grown)).mono ?_
      rintro e w2 ⟨rfl, hb2⟩
      have HB2 : Hid (Below w.heap.size w w2) := Lib.hid (hb.out.trans (((show Below wr.heap.size wr _ from by go_grown).trans (hb2.mono (show Below wr.heap.size wr _ from by go_grown).size)).mono hb.out.size))
      clear hb2 x0 x1 x2 x3 x4 x5 y0 y1 y2 y3 y4 y5 HSE
      cases q with
      | true =>
        have hts := HQQ.out.1 rfl
        have HNO : Hid (∀ j (a : j < es1.length) (b : j < es2.length), j < k + 1 → es1[j].ts = es2[j].ts) := Lib.hid (fun j a b hj => by
          rcases Nat.lt_or_ge j k with h | h
          · exact hno.out j a b h
          · obtain rfl : j = k := by omega
            exact hts)
        clear hts
        go_wp2
        go_roundw
        case rel => exact ⟨k + 1, by omega, by go_num, HB2.out, HNO.out⟩
        case measure => simp [intOf]; omega
      | false =>
        have hrf : r = false := by
          cases hb3 : r with
          | false => rfl
          | true => exact absurd (HQQ.out.2 (HR.out.1 hb3 k hk1 hk2)) (by decide)
        subst hrf
        go_wp2
        go_ret
        exact ⟨rfl, HB2.out⟩
    · obtain rfl : k = n := by omega
      have hrt : r = true := HR.out.2 (fun j a b => hno.out j a b (by rw [← HN.out]; exact a))
      subst hrt
      clear hlt
      go_wp2
      go_ret
      exact ⟨rfl, hb.out⟩
end Go.Proofs.Ytopbildpeojgoaa.Ck
end

section
namespace Go.Proofs.Ytopbildpeojgoaa.Ck
open Go.RowKit Go.Proofs.Ytopbildpeojgoaa Go.Proofs.Ytopbildpeojgoaa.Sch Go.Proofs.Ytopbildpeojgoaa.Ty
set_option linter.unusedVariables false
set_option maxRecDepth 100000
set_option maxHeartbeats 2000000 in
theorem same_any (v1 v2 : Value) (win cap : Int) (es1 es2 : List Qe) (w : World) (h1 : Qs w w.heap.size v1 es1) (h2 : Qs w w.heap.size v2 es2) (hl : es1.length = es2.length) (hal : ∀ k (a : k < es1.length) (b : k < es2.length), Like es1[k] es2[k]) (r : Bool) (hr : r = true ↔ ∀ k (a : k < es1.length) (b : k < es2.length), es1[k].ts = es2[k].ts) :
    Calls Try.prog 40 #[.agg #[v1, .int .i64 win, .int .i64 cap], .agg #[v2, .int .i64 win, .int .i64 cap]] w fun e w' => e = .returned (.bool r) ∧ Below w.heap.size w w' := by
  have hX : Below w.heap.size w ((w.alloc (.cells #[v1, .int .i64 win, .int .i64 cap] 67)).alloc (.cells #[v2, .int .i64 win, .int .i64 cap] 67)) := ((Below.refl _ w).alloc (Nat.le_refl _) _).alloc (by simp) _
  have HX := Lib.hid hX
  have HE := Lib.hid (eqf_any v1 v2 es1 es2 _ (h1.below hX hX.size) (h2.below hX hX.size) hl hal r hr)
  obtain ⟨A1, c1, rfl, _, _, _⟩ := h1
  obtain ⟨A2, c2, rfl, _, _, _⟩ := h2
  obtain ⟨n1, hn1⟩ : ∃ n, es1.length = n := ⟨_, rfl⟩
  obtain ⟨n2, hn2⟩ : ∃ n, es2.length = n := ⟨_, rfl⟩
  rw [hn1] at HE HX ⊢
  rw [hn2] at HE HX ⊢
  clear hX hr hal hl hn1 hn2
  go_enter Try.func40, Try.ntmps40
  go_wp2_with fail
  refine HE.out.mono ?_
  rintro e w1 ⟨rfl, hb1⟩
  have HB1 := Lib.hid (HX.out.trans (hb1.mono HX.out.size))
  clear hb1
  go_wp2
  go_ret
  exact ⟨rfl, HB1.out⟩
end Go.Proofs.Ytopbildpeojgoaa.Ck
end

section
namespace Go.Proofs.Ytopbildpeojgoaa.Ck
open Go.RowKit Go.Proofs.Ytopbildpeojgoaa Go.Proofs.Ytopbildpeojgoaa.Sch Go.Proofs.Ytopbildpeojgoaa.Ty
set_option linter.unusedVariables false
set_option maxRecDepth 100000
set_option maxHeartbeats 2000000 in
theorem rnod_same (v1 v2 : Value) (L : List Nd) (w : World) (h1 : Ns w w.heap.size v1 L) (h2 : Ns w w.heap.size v2 L) :
    Calls Try.prog 107 #[v1, v2] w fun e w' => e = .returned (.bool true) ∧ Below w.heap.size w w' := by
  obtain ⟨A1, c1, rfl, a1, a2, a3⟩ := h1
  obtain ⟨A2, c2, rfl, b1, b2, b3⟩ := h2
  obtain ⟨n, hn⟩ : ∃ n, L.length = n := ⟨_, rfl⟩
  rw [hn] at a1 b1 ⊢
  have H3 := Lib.hid a3
  have B3 := Lib.hid b3
  have HN := Lib.hid hn
  clear a3 b3 hn
  go_enter Try.func107, Try.ntmps107
  go_wp2
  go_loopw [5] (fun s wr => ∃ k : Nat, k ≤ n ∧ s = .int .i64 k ∧ Hid (Below w.heap.size w wr)) (fun s _ => n - (intOf s).toNat)
  case atStart => exact ⟨0, by omega, rfl, Below.refl _ _⟩
  case round =>
    obtain ⟨k, hk, rfl, hb⟩ := hrel
    by_cases hlt : k < n
    · obtain ⟨g1, o1, rfl, hg1, d1⟩ := H3.out k (by rw [HN.out]; exact hlt)
      obtain ⟨g2, o2, rfl, hg2, d2⟩ := B3.out k (by rw [HN.out]; exact hlt)
      obtain ⟨⟨xo, xk, xi, xs, xb, xv, xf⟩, hx⟩ : ∃ x, L[k]'(by rw [HN.out]; exact hlt) = x := ⟨_, rfl⟩
      rw [hx] at d1 d2
      have p0 := (hb.out.cell (p := ⟨g1, o1 + k * 7, none⟩) hg1).trans (d1 0 _ rfl)
      have p1 := (hb.out.cell (p := ⟨g1, o1 + k * 7 + 1, none⟩) hg1).trans (d1 1 _ rfl)
      have p2 := (hb.out.cell (p := ⟨g1, o1 + k * 7 + 2, none⟩) hg1).trans (d1 2 _ rfl)
      have p3 := (hb.out.cell (p := ⟨g1, o1 + k * 7 + 3, none⟩) hg1).trans (d1 3 _ rfl)
      have p4 := (hb.out.cell (p := ⟨g1, o1 + k * 7 + 4, none⟩) hg1).trans (d1 4 _ rfl)
      have p5 := (hb.out.cell (p := ⟨g1, o1 + k * 7 + 5, none⟩) hg1).trans (d1 5 _ rfl)
      have p6 := (hb.out.cell (p := ⟨g1, o1 + k * 7 + 6, none⟩) hg1).trans (d1 6 _ rfl)
      have q0 := (hb.out.cell (p := ⟨g2, o2 + k * 7, none⟩) hg2).trans (d2 0 _ rfl)
      have q1 := (hb.out.cell (p := ⟨g2, o2 + k * 7 + 1, none⟩) hg2).trans (d2 1 _ rfl)
      have q2 := (hb.out.cell (p := ⟨g2, o2 + k * 7 + 2, none⟩) hg2).trans (d2 2 _ rfl)
      have q3 := (hb.out.cell (p := ⟨g2, o2 + k * 7 + 3, none⟩) hg2).trans (d2 3 _ rfl)
      have q4 := (hb.out.cell (p := ⟨g2, o2 + k * 7 + 4, none⟩) hg2).trans (d2 4 _ rfl)
      have q5 := (hb.out.cell (p := ⟨g2, o2 + k * 7 + 5, none⟩) hg2).trans (d2 5 _ rfl)
      have q6 := (hb.out.cell (p := ⟨g2, o2 + k * 7 + 6, none⟩) hg2).trans (d2 6 _ rfl)
      have hkz : (k : Int) < (n : Int) := by omega
      have hkc1 : k < c1 := by omega
      have hkc2 : k < c2 := by omega
      clear hx d1 d2
      go_upto_region 6 with fail
      go_region
      all_goals
        go_wp2
        go_roundw
        case rel => exact ⟨k + 1, by omega, by go_num, by first | exact hb.out | exact hb.out.drew⟩
        case measure => simp [intOf]; omega
    · obtain rfl : k = n := by omega
      clear hlt
      go_wp2
      go_ret
      exact ⟨rfl, hb.out⟩
def Two6 (W wx : World) (b1 b2 : Nat) (c1 c2 : Array Value) : Prop := Row wx b1 73 c1 ∧ Row wx b2 73 c2 ∧ Below W.heap.size W wx
set_option maxHeartbeats 8000000 in
theorem rsame_any (v1 v2 : Value) (win cap : Int) (es : List Qe) (w : World) (h1 : Qs w w.heap.size v1 es) (h2 : Qs w w.heap.size v2 es) :
    Calls Try.prog 41 #[.agg #[v1, .int .i64 win, .int .i64 cap], .agg #[v2, .int .i64 win, .int .i64 cap]] w fun e w' => e = .returned (.bool true) ∧ Below w.heap.size w w' := by
  have HQ1 := Lib.hid h1
  have HQ2 := Lib.hid h2
  obtain ⟨A1, c1, rfl, a1, a2, _⟩ := h1
  obtain ⟨A2, c2, rfl, b1, b2, _⟩ := h2
  obtain ⟨n, hn⟩ : ∃ n, es.length = n := ⟨_, rfl⟩
  rw [hn] at a1 b1 HQ1 HQ2 ⊢
  have HN := Lib.hid hn
  clear hn
  obtain ⟨W, hW⟩ : ∃ W, (w.alloc (.cells #[.slice A1 n c1, .int .i64 win, .int .i64 cap] 67)).alloc (.cells #[.slice A2 n c2, .int .i64 win, .int .i64 cap] 67) = W := ⟨_, rfl⟩
  have hX : Below w.heap.size w W := by rw [← hW]; exact ((Below.refl _ w).alloc (Nat.le_refl _) _).alloc (by simp) _
  have R1 : Hid (Row W w.heap.size 67 #[.slice A1 n c1, .int .i64 win, .int .i64 cap]) := Lib.hid (by rw [← hW]; exact (Row.made w _ _).alloc _)
  have R2 : Hid (Row W (w.heap.size + 1) 67 #[.slice A2 n c2, .int .i64 win, .int .i64 cap]) := Lib.hid (by rw [← hW]; exact row_at (by simp) _ _)
  have HX := Lib.hid hX
  have z0 : W.cell? ⟨w.heap.size, 0, none⟩ = some (.slice A1 n c1) := (R1.out.cell 0).trans rfl
  have z1 : W.cell? ⟨w.heap.size, 1, none⟩ = some (.int .i64 win) := (R1.out.cell 1).trans rfl
  have z2 : W.cell? ⟨w.heap.size, 2, none⟩ = some (.int .i64 cap) := (R1.out.cell 2).trans rfl
  have z3 : W.cell? ⟨w.heap.size + 1, 0, none⟩ = some (.slice A2 n c2) := (R2.out.cell 0).trans rfl
  have z4 : W.cell? ⟨w.heap.size + 1, 1, none⟩ = some (.int .i64 win) := (R2.out.cell 1).trans rfl
  have z5 : W.cell? ⟨w.heap.size + 1, 2, none⟩ = some (.int .i64 cap) := (R2.out.cell 2).trans rfl
  go_enter Try.func41, Try.ntmps41
  go_wp2
  clear hX hW z0 z1 z2 z3 z4 z5
  go_loopw [5] (fun s wr => ∃ k : Nat, k ≤ n ∧ s = .int .i64 k ∧ Hid (Below W.heap.size W wr)) (fun s _ => n - (intOf s).toNat)
  case atStart => exact ⟨0, by omega, rfl, Below.refl _ _⟩
  case round =>
    obtain ⟨k, hk, rfl, hb⟩ := hrel
    have R11 := Lib.hid (Row.below R1.out hb.out R1.out.lt)
    have R21 := Lib.hid (Row.below R2.out hb.out R2.out.lt)
    have HBW := Lib.hid (HX.out.trans (hb.out.mono HX.out.size))
    have u0 : wr.cell? ⟨w.heap.size, 0, none⟩ = some (.slice A1 n c1) := (R11.out.cell 0).trans rfl
    by_cases hlt : k < n
    · have hkl : k < es.length := by rw [HN.out]; exact hlt
      obtain ⟨B1, d1, e1, _, _, h3⟩ := HQ1.out.below HBW.out HBW.out.size
      injection e1 with e1 e2 e3
      subst e1 e3
      clear e2
      obtain ⟨B2, d2, e1, _, _, h4⟩ := HQ2.out.below HBW.out HBW.out.size
      injection e1 with e1 e2 e3
      subst e1 e3
      clear e2
      obtain ⟨g1, o1, tv1, pv1, rfl, hg1, x0, x1, x2, x3, x4, x5, hs1, hp1⟩ := h3 k hkl
      obtain ⟨g2, o2, tv2, pv2, rfl, hg2, y0, y1, y2, y3, y4, y5, hs2, hp2⟩ := h4 k hkl
      have u1 : wr.cell? ⟨w.heap.size + 1, 0, none⟩ = some (.slice (some ⟨g2, o2, none⟩) n c2) := (R21.out.cell 0).trans rfl
      have hkz : (k : Int) < (n : Int) := by omega
      have hkc1 : k < c1 := by omega
      have hkc2 : k < c2 := by omega
      obtain ⟨⟨ev, et, en, ea, eb, ep⟩, hx⟩ : ∃ x, es[k] = x := ⟨_, rfl⟩
      rw [hx] at x0 x2 x3 x4 y0 y2 y3 y4 hs1 hp1 hs2 hp2
      dsimp only at x0 x2 x3 x4 y0 y2 y3 y4 hs1 hp1 hs2 hp2
      have HS1 := Lib.hid hs1
      have HS2 := Lib.hid hs2
      have HP0 := Lib.hid (fun X (h : Below wr.heap.size wr X) => rnod_same pv1 pv2 ep X (hp1.below h h.size) (hp2.below h h.size))
      obtain ⟨tA1, tc1, rfl, tn1, _, _⟩ := hs1
      obtain ⟨tA2, tc2, rfl, tn2, _, _⟩ := hs2
      obtain ⟨pA1, pc1, rfl, _, _, _⟩ := hp1
      obtain ⟨pA2, pc2, rfl, _, _, _⟩ := hp2
      obtain ⟨m1, hm1⟩ : ∃ x, et.length = x := ⟨_, rfl⟩
      obtain ⟨m3, hm3⟩ : ∃ x, ep.length = x := ⟨_, rfl⟩
      rw [hm1] at x1 y1 HS1 HS2 tn1 tn2
      rw [hm3] at x5 y5 HP0
      have HM1 := Lib.hid hm1
      clear h3 h4 hx hm1 hm3
      go_upto_region 6 with fail
      go_cut [6, 7] (fun s6 s7 wx => ∃ b6 b7 : Nat, s6 = .pointer (some ⟨b6, 0, none⟩) ∧ s7 = .pointer (some ⟨b7, 0, none⟩) ∧ Hid (Two6 wr wx b6 b7 #[.string ev, .slice tA1 m1 tc1, .bool en, .int .i64 ea, .int .i64 eb, .slice pA1 m3 pc1] #[.string ev, .slice tA2 m1 tc2, .bool en, .int .i64 ea, .int .i64 eb, .slice pA2 m3 pc2]))
      case first =>
        have u0_1 : ∀ q1 : Obj, (wr.alloc q1).cell? ⟨w.heap.size, 0, none⟩ = some (.slice (some ⟨g1, o1, none⟩) n c1) := fun q1 => Lib.cell?_alloc_some _ u0
        have u0_2 : ∀ q1 q2 : Obj, ((wr.alloc q1).alloc q2).cell? ⟨w.heap.size, 0, none⟩ = some (.slice (some ⟨g1, o1, none⟩) n c1) := fun q1 q2 => Lib.cell?_alloc_some _ (Lib.cell?_alloc_some _ u0)
        have u1_1 : ∀ q1 : Obj, (wr.alloc q1).cell? ⟨w.heap.size + 1, 0, none⟩ = some (.slice (some ⟨g2, o2, none⟩) n c2) := fun q1 => Lib.cell?_alloc_some _ u1
        have u1_2 : ∀ q1 q2 : Obj, ((wr.alloc q1).alloc q2).cell? ⟨w.heap.size + 1, 0, none⟩ = some (.slice (some ⟨g2, o2, none⟩) n c2) := fun q1 q2 => Lib.cell?_alloc_some _ (Lib.cell?_alloc_some _ u1)
        have x0_1 : ∀ q1 : Obj, (wr.alloc q1).cell? ⟨g1, o1 + k * 6, none⟩ = some (.string ev) := fun q1 => Lib.cell?_alloc_some _ x0
        have x0_2 : ∀ q1 q2 : Obj, ((wr.alloc q1).alloc q2).cell? ⟨g1, o1 + k * 6, none⟩ = some (.string ev) := fun q1 q2 => Lib.cell?_alloc_some _ (Lib.cell?_alloc_some _ x0)
        have y0_1 : ∀ q1 : Obj, (wr.alloc q1).cell? ⟨g2, o2 + k * 6, none⟩ = some (.string ev) := fun q1 => Lib.cell?_alloc_some _ y0
        have y0_2 : ∀ q1 q2 : Obj, ((wr.alloc q1).alloc q2).cell? ⟨g2, o2 + k * 6, none⟩ = some (.string ev) := fun q1 q2 => Lib.cell?_alloc_some _ (Lib.cell?_alloc_some _ y0)
        have x1_1 : ∀ q1 : Obj, (wr.alloc q1).cell? ⟨g1, o1 + k * 6 + 1, none⟩ = some (.slice tA1 m1 tc1) := fun q1 => Lib.cell?_alloc_some _ x1
        have x1_2 : ∀ q1 q2 : Obj, ((wr.alloc q1).alloc q2).cell? ⟨g1, o1 + k * 6 + 1, none⟩ = some (.slice tA1 m1 tc1) := fun q1 q2 => Lib.cell?_alloc_some _ (Lib.cell?_alloc_some _ x1)
        have y1_1 : ∀ q1 : Obj, (wr.alloc q1).cell? ⟨g2, o2 + k * 6 + 1, none⟩ = some (.slice tA2 m1 tc2) := fun q1 => Lib.cell?_alloc_some _ y1
        have y1_2 : ∀ q1 q2 : Obj, ((wr.alloc q1).alloc q2).cell? ⟨g2, o2 + k * 6 + 1, none⟩ = some (.slice tA2 m1 tc2) := fun q1 q2 => Lib.cell?_alloc_some _ (Lib.cell?_alloc_some _ y1)
        have x2_1 : ∀ q1 : Obj, (wr.alloc q1).cell? ⟨g1, o1 + k * 6 + 2, none⟩ = some (.bool en) := fun q1 => Lib.cell?_alloc_some _ x2
        have x2_2 : ∀ q1 q2 : Obj, ((wr.alloc q1).alloc q2).cell? ⟨g1, o1 + k * 6 + 2, none⟩ = some (.bool en) := fun q1 q2 => Lib.cell?_alloc_some _ (Lib.cell?_alloc_some _ x2)
        have y2_1 : ∀ q1 : Obj, (wr.alloc q1).cell? ⟨g2, o2 + k * 6 + 2, none⟩ = some (.bool en) := fun q1 => Lib.cell?_alloc_some _ y2
        have y2_2 : ∀ q1 q2 : Obj, ((wr.alloc q1).alloc q2).cell? ⟨g2, o2 + k * 6 + 2, none⟩ = some (.bool en) := fun q1 q2 => Lib.cell?_alloc_some _ (Lib.cell?_alloc_some _ y2)
        have x3_1 : ∀ q1 : Obj, (wr.alloc q1).cell? ⟨g1, o1 + k * 6 + 3, none⟩ = some (.int .i64 ea) := fun q1 => Lib.cell?_alloc_some _ x3
        have x3_2 : ∀ q1 q2 : Obj, ((wr.alloc q1).alloc q2).cell? ⟨g1, o1 + k * 6 + 3, none⟩ = some (.int .i64 ea) := fun q1 q2 => Lib.cell?_alloc_some _ (Lib.cell?_alloc_some _ x3)
        have y3_1 : ∀ q1 : Obj, (wr.alloc q1).cell? ⟨g2, o2 + k * 6 + 3, none⟩ = some (.int .i64 ea) := fun q1 => Lib.cell?_alloc_some _ y3
        have y3_2 : ∀ q1 q2 : Obj, ((wr.alloc q1).alloc q2).cell? ⟨g2, o2 + k * 6 + 3, none⟩ = some (.int .i64 ea) := fun q1 q2 => Lib.cell?_alloc_some _ (Lib.cell?_alloc_some _ y3)
        have x4_1 : ∀ q1 : Obj, (wr.alloc q1).cell? ⟨g1, o1 + k * 6 + 4, none⟩ = some (.int .i64 eb) := fun q1 => Lib.cell?_alloc_some _ x4
        have x4_2 : ∀ q1 q2 : Obj, ((wr.alloc q1).alloc q2).cell? ⟨g1, o1 + k * 6 + 4, none⟩ = some (.int .i64 eb) := fun q1 q2 => Lib.cell?_alloc_some _ (Lib.cell?_alloc_some _ x4)
        have y4_1 : ∀ q1 : Obj, (wr.alloc q1).cell? ⟨g2, o2 + k * 6 + 4, none⟩ = some (.int .i64 eb) := fun q1 => Lib.cell?_alloc_some _ y4
        have y4_2 : ∀ q1 q2 : Obj, ((wr.alloc q1).alloc q2).cell? ⟨g2, o2 + k * 6 + 4, none⟩ = some (.int .i64 eb) := fun q1 q2 => Lib.cell?_alloc_some _ (Lib.cell?_alloc_some _ y4)
        have x5_1 : ∀ q1 : Obj, (wr.alloc q1).cell? ⟨g1, o1 + k * 6 + 5, none⟩ = some (.slice pA1 m3 pc1) := fun q1 => Lib.cell?_alloc_some _ x5
        have x5_2 : ∀ q1 q2 : Obj, ((wr.alloc q1).alloc q2).cell? ⟨g1, o1 + k * 6 + 5, none⟩ = some (.slice pA1 m3 pc1) := fun q1 q2 => Lib.cell?_alloc_some _ (Lib.cell?_alloc_some _ x5)
        have y5_1 : ∀ q1 : Obj, (wr.alloc q1).cell? ⟨g2, o2 + k * 6 + 5, none⟩ = some (.slice pA2 m3 pc2) := fun q1 => Lib.cell?_alloc_some _ y5
        have y5_2 : ∀ q1 q2 : Obj, ((wr.alloc q1).alloc q2).cell? ⟨g2, o2 + k * 6 + 5, none⟩ = some (.slice pA2 m3 pc2) := fun q1 q2 => Lib.cell?_alloc_some _ (Lib.cell?_alloc_some _ y5)
        go_region
        all_goals
          go_wp2
          go_meet
          exact ⟨_, _, rfl, rfl, Lib.hid ⟨by first | exact row_at (by simp) _ _ | exact (row_at (by simp) _ _).alloc _ | exact (row_at (by simp) _ _).drew | exact ((row_at (by simp) _ _).alloc _).drew, by first | exact row_at (by simp) _ _ | exact (row_at (by simp) _ _).alloc _ | exact (row_at (by simp) _ _).drew | exact ((row_at (by simp) _ _).alloc _).drew, by go_grown⟩⟩
      case rest =>
        obtain ⟨b6, b7, rfl, rfl, h6⟩ := hcut
        obtain ⟨r6, r7, hb6⟩ := h6.out
        have R6 := Lib.hid r6
        have R7 := Lib.hid r7
        have HB6 := Lib.hid hb6
        have s0 : wc.cell? ⟨b6, 0, none⟩ = some (.string ev) := (r6.cell 0).trans rfl
        have t0 : wc.cell? ⟨b7, 0, none⟩ = some (.string ev) := (r7.cell 0).trans rfl
        have s1 : wc.cell? ⟨b6, 1, none⟩ = some (.slice tA1 m1 tc1) := (r6.cell 1).trans rfl
        have t1 : wc.cell? ⟨b7, 1, none⟩ = some (.slice tA2 m1 tc2) := (r7.cell 1).trans rfl
        have s2 : wc.cell? ⟨b6, 2, none⟩ = some (.bool en) := (r6.cell 2).trans rfl
        have t2 : wc.cell? ⟨b7, 2, none⟩ = some (.bool en) := (r7.cell 2).trans rfl
        have s3 : wc.cell? ⟨b6, 3, none⟩ = some (.int .i64 ea) := (r6.cell 3).trans rfl
        have t3 : wc.cell? ⟨b7, 3, none⟩ = some (.int .i64 ea) := (r7.cell 3).trans rfl
        have s4 : wc.cell? ⟨b6, 4, none⟩ = some (.int .i64 eb) := (r6.cell 4).trans rfl
        have t4 : wc.cell? ⟨b7, 4, none⟩ = some (.int .i64 eb) := (r7.cell 4).trans rfl
        have s5 : wc.cell? ⟨b6, 5, none⟩ = some (.slice pA1 m3 pc1) := (r6.cell 5).trans rfl
        have t5 : wc.cell? ⟨b7, 5, none⟩ = some (.slice pA2 m3 pc2) := (r7.cell 5).trans rfl
        have HPC := Lib.hid (HP0.out wc hb6)
        clear r6 r7 hb6 h6
        go_wp2_with fail
        refine HPC.out.mono ?_
        rintro e w2 ⟨rfl, hb2⟩
        have HB2 := Lib.hid (HB6.out.trans (hb2.mono HB6.out.size))
        have R62 := Lib.hid (Row.below R6.out hb2 R6.out.lt)
        have R72 := Lib.hid (Row.below R7.out hb2 R7.out.lt)
        have HS12 := Lib.hid (HS1.out.below HB2.out HB2.out.size)
        have HS22 := Lib.hid (HS2.out.below HB2.out HB2.out.size)
        have HBX := Lib.hid (hb.out.trans (HB2.out.mono hb.out.size))
        clear hb2 u0 u1 s0 t0 x0 y0 s1 t1 x1 y1 s2 t2 x2 y2 s3 t3 x3 y3 s4 t4 x4 y4 s5 t5 x5 y5 HPC HP0
        go_wp2
        go_loopw [8] (fun s8 wy => ∃ j : Nat, j ≤ m1 ∧ s8 = .int .i64 j ∧ Hid (Below w2.heap.size w2 wy)) (fun s8 _ => m1 - (intOf s8).toNat)
        case atStart => exact ⟨0, by omega, rfl, Below.refl _ _⟩
        case round =>
          obtain ⟨j, hj, rfl, hbj⟩ := hrel
          have i1 : _ = some (Value.slice tA1 m1 tc1) := (Row.cell (Row.below R62.out hbj.out R62.out.lt) 1).trans rfl
          have i2 : _ = some (Value.slice tA2 m1 tc2) := (Row.cell (Row.below R72.out hbj.out R72.out.lt) 1).trans rfl
          by_cases hjl : j < m1
          · obtain ⟨C1, e1, e2, _, _, k3⟩ := HS12.out.below hbj.out hbj.out.size
            injection e2 with f1 f2 f3
            subst f1 f3
            clear f2
            obtain ⟨C2, e1, e2, _, _, k4⟩ := HS22.out.below hbj.out hbj.out.size
            injection e2 with f1 f2 f3
            subst f1 f3
            clear f2
            obtain ⟨p1, q1, rfl, _, i3⟩ := k3 j (by rw [HM1.out]; exact hjl)
            obtain ⟨p2, q2, rfl, _, i4⟩ := k4 j (by rw [HM1.out]; exact hjl)
            obtain ⟨tx, htx⟩ : ∃ x, et[j]'(by rw [HM1.out]; exact hjl) = x := ⟨_, rfl⟩
            rw [htx] at i3 i4
            have hjz : (j : Int) < (m1 : Int) := by omega
            have hjc1 : j < tc1 := by omega
            have hjc2 : j < tc2 := by omega
            clear k3 k4 htx
            go_upto_region 12 with fail
            go_region
            all_goals
              go_wp2
              go_roundw
              case rel => exact ⟨j + 1, by omega, by go_num, by first | exact hbj.out | exact hbj.out.drew⟩
              case measure => simp [intOf]; omega
          · obtain rfl : j = m1 := by omega
            clear hjl
            go_wp2
            go_roundw
            case rel => exact ⟨k + 1, by omega, by go_num, HBX.out.trans (hbj.out.mono HBX.out.size)⟩
            case measure => simp [intOf]; omega
    · obtain rfl : k = n := by omega
      clear hlt
      go_wp2
      go_ret
      exact ⟨rfl, HBW.out⟩
end Go.Proofs.Ytopbildpeojgoaa.Ck
end
