/- The law HistOrder. -/
import Derived.Test.YtaimbkikiokenaaHoP
import Derived.Deep.RegionHeld3
import Derived.BigRegion
import Derived.Deep.RegionHeld
import Derived.BigQuiet
namespace Go.Proofs.Ytaimbkikiokenaa.Hi
open Go.RowKit Go.Proofs.Ytaimbkikiokenaa Go.Maps
set_option linter.unusedVariables false
set_option maxRecDepth 100000
theorem lv_seg {w : World} {A : Option Addr} {n c : Nat} {es : List Hv} {ob : Option Nat} (h : Seg w 144 11 (.slice A n c) n (ecells es) ob) (hn : n = es.length) : Lv w A es := fun i e he => by
  have hi := (List.getElem?_eq_some_iff.1 he).1
  obtain ⟨g, o, cap, e1, hob, _, _, hc, _⟩ := h.shape (by omega)
  injection e1 with e1 _ _
  exact ⟨g, o, e1, h.lt g hob, fun j u hj => by rw [Nat.add_assoc]; exact hc _ _ (ecells_get es i e j u he hj)⟩
/-- A list of the call's own, by what it holds. -/
def OL (B : Nat) (w : World) (A : Option Addr) (L : List Sp) : Prop := 0 < L.length → ∃ g o, A = some ⟨g, o, none⟩ ∧ DL w g o L ∧ g < w.heap.size ∧ B ≤ g
theorem OL.call {B : Nat} {w w' : World} {A : Option Addr} {L : List Sp} (h : OL B w A L) (hb : Below w.heap.size w w') : OL B w' A L := fun h0 => by
  obtain ⟨g, o, e, hd, hg, h1⟩ := h h0
  exact ⟨g, o, e, hd.call hb hg, Nat.lt_of_lt_of_le hg hb.size, h1⟩
theorem OL.ls {B : Nat} {w : World} {A : Option Addr} {L : List Sp} (h : OL B w A L) : Ls w A L := fun i x hx => by
  obtain ⟨hi, rfl⟩ := List.getElem?_eq_some_iff.1 hx
  obtain ⟨g, o, e, hd, hg, _⟩ := h (by omega)
  exact ⟨g, o, e, hg, fun j u hj => hd.ce i hi j u hj⟩
theorem own_ol {w w' : World} {v : Value} {L : List Sp} (h : OwnL w w' v L) : ∃ A c, v = .slice A L.length c ∧ L.length ≤ c ∧ c ≤ 9223372036854775807 ∧ OL w.heap.size w' A L ∧ Below w.heap.size w w' := by
  obtain ⟨hb, ⟨rfl, rfl⟩ | ⟨g, o, cap, rfl, h1, h2, h3, h4, h5⟩⟩ := h
  · exact ⟨none, 0, rfl, Nat.le_refl _, by omega, fun h => absurd h (by decide), hb⟩
  · exact ⟨_, cap, rfl, h1, h2, fun _ => ⟨g, o, rfl, h3, h5, h4⟩, hb⟩
theorem ls_13 {w : World} {A : Option Addr} {L : List Sp} (h : Ls w A L) {i : Nat} {x : Sp} (hx : L[i]? = some x) : ∃ gs os, A = some ⟨gs, os, none⟩ ∧ gs < w.heap.size ∧ w.cell? ⟨gs, os + i * 13, none⟩ = some (.int .i64 x.c) ∧ w.cell? ⟨gs, os + i * 13 + 1, none⟩ = some (.int .i64 x.n) ∧ w.cell? ⟨gs, os + i * 13 + 2, none⟩ = some (.int .i64 x.call) ∧ w.cell? ⟨gs, os + i * 13 + 3, none⟩ = some (.int .i64 x.turn) ∧ w.cell? ⟨gs, os + i * 13 + 4, none⟩ = some (.int .i64 x.reply) ∧ w.cell? ⟨gs, os + i * 13 + 5, none⟩ = some (.int .i64 x.err) ∧ w.cell? ⟨gs, os + i * 13 + 6, none⟩ = some (.int .i64 x.tick) ∧ w.cell? ⟨gs, os + i * 13 + 7, none⟩ = some (.int .i64 0) ∧ w.cell? ⟨gs, os + i * 13 + 8, none⟩ = some (.int .i64 0) ∧ w.cell? ⟨gs, os + i * 13 + 9, none⟩ = some (.int .i64 0) ∧ w.cell? ⟨gs, os + i * 13 + 10, none⟩ = some (.int .i64 0) ∧ w.cell? ⟨gs, os + i * 13 + 11, none⟩ = some (.int .i64 0) ∧ w.cell? ⟨gs, os + i * 13 + 12, none⟩ = some (.int .i64 0) := by
  obtain ⟨g, o, e, hg, hc⟩ := h i x hx
  exact ⟨g, o, e, hg, hc 0 _ rfl, hc 1 _ rfl, hc 2 _ rfl, hc 3 _ rfl, hc 4 _ rfl, hc 5 _ rfl, hc 6 _ rfl, hc 7 _ rfl, hc 8 _ rfl, hc 9 _ rfl, hc 10 _ rfl, hc 11 _ rfl, hc 12 _ rfl⟩
theorem take_at {P : Program} {ops : Array Oper} {Q : Exit → Act → World → Prop} {md : Region.Mode} {S : World → Prop} {fuel : Nat} {listed : Array Bool} {a : Act} {w : World} (i : Nat) (d : Tmp) (oi : Oper) {v : Value} (hi : ops[i]? = some oi) (hd : oi.dst = some d)
    (hs : Region.noSelect ops = true) (hf : Region.free md ops listed i = true) (hr : (Region.ready md ops listed).contains i = true)
    (hQ : ∀ c a w, Q (.panic c) (a.put oi.dst v) w → Q (.panic c) a w) (hy : YieldsIf P ops S oi v a) (hS : S w)
    (h : wpAnyH P md ops Q S fuel (listed.setIfInBounds i true) (a.put (some d) v) w) : wpAnyH P md ops Q S (fuel + 1) listed a w :=
  wpAnyH_take hi hs hf hr hQ hy hS (by rw [hd]; exact h)
set_option maxHeartbeats 8000000 in
theorem order_hid (A : Option Addr) (n c : Nat) (f : Nat → Int) (hn : n ≤ c) (hc : c ≤ 9223372036854775807) (HFB : Hid (∀ k, -9223372036854775808 ≤ f k ∧ f k ≤ 9223372036854775807)) (sw : Int) (hsw : Hid (-9223372036854775808 ≤ sw ∧ sw ≤ 9223372036854775807)) (w : World) (HL : Hid (Lies w w.heap.size A n (fun k => .int .i64 (f k)))) :
    Calls Try.prog 8 #[.slice A n c, .int .i64 sw] w fun e w' => e = .returned (.bool true) ∧ Below w.heap.size w w' := by
  go_enter Try.func8, Try.ntmps8
  go_wp2_with fail
  refine (made15 A n c f hn hc HFB.out w HL.out).mono ?_
  rintro e w1 ⟨v, es, rfl, hM, a, nn, xs, hV⟩
  obtain ⟨ob, hs⟩ := hM.sg
  obtain ⟨A1, c1, rfl, h1, h2⟩ := hs.form
  have HLV := Lib.hid (lv_seg hs rfl)
  have HV := Lib.hid hV
  have HBW := Lib.hid hM.be
  have HEV := Lib.hid hM.ev
  have HLN := Lib.hid hM.ln
  have hc9 : c1 ≤ 9223372036854775807 := by unfold maxLen at h2; omega
  have HSP := Lib.hid (spans_any A1 es.length c1 es w1 HLV.out rfl h1 hc9 (by have := HLN.out; omega) (fun i e he => by
    obtain ⟨k1, k2⟩ := HEV.out i e he
    exact ⟨k1, by unfold NB at k2; unfold I64; omega⟩))
  rw [hV.sp] at HSP
  clear hM hs hV h2 h1 hc9
  go_wp2_with fail
  refine HSP.out.mono ?_
  rintro e w2 (⟨ys, v', ob', hys, rfl, hseg, hob, hb⟩ | ⟨hno, _⟩)
  case inr => cases hno
  injection hys with hys
  subst hys
  obtain ⟨B, c2, rfl, h1, h2⟩ := hseg.form
  have hc2 : c2 ≤ 9223372036854775807 := by unfold maxLen at h2; omega
  have hct := HV.out.ct
  have hdl : (doneL xs).length ≤ 15 := by
    have h3 : (doneL xs).length ≤ xs.length := List.length_filter_le _ _
    have h4 := HLN.out
    omega
  have hm9 : xs.length ≤ 30 := by have h4 := HLN.out; omega
  obtain ⟨m, hm⟩ : ∃ m, xs.length = m := ⟨_, rfl⟩
  have HLS := Lib.hid (ls_seg hseg rfl)
  have HB2 := Lib.hid (HBW.out.trans (hb.mono HBW.out.size))
  have HM := Lib.hid hm
  have HDL := Lib.hid hdl
  have HOR := Lib.hid (order_any B m c2 xs w2 HLS.out hm (by omega) hc2 (by omega) (by omega))
  rw [hm] at h1 hm9 ⊢
  have HFI := Lib.hid (done_fine HV.out)
  clear hseg hob hb h2 hct hdl hm HSP HLV HEV HBW
  go_wp2_with fail
  refine HOR.out.mono ?_
  rintro e w3 ⟨vo, rfl, hown⟩
  obtain ⟨AO, co, rfl, ho1, ho2, hol, hb3⟩ := own_ol hown
  have HLS3 := Lib.hid (HLS.out.call hb3)
  have HOL := Lib.hid hol
  have HGE := Lib.hid HB2.out.size
  have HB3 := Lib.hid (HB2.out.trans (hb3.mono HB2.out.size))
  have hil : (isort (doneL xs)).length = (doneL xs).length := isort_len _
  obtain ⟨N, hN⟩ : ∃ N, (doneL xs).length = N := ⟨_, rfl⟩
  have HN := Lib.hid hN
  have hN9 : N ≤ 15 := by rw [← hN]; exact HDL.out
  rw [hil, hN] at ho1 ⊢
  clear hown hol hb3 hil hN HOR HLS HB2 HDL
  have HB0 := Lib.hid (Below.refl w3.heap.size w3)
  go_upto_block 0 with fail
  go_cut [8, 9, 10] (fun s8 s9 s10 wx => s8 = .int .i64 N ∧ Hid (Below w3.heap.size w3 wx))
  case first =>
    go_wp2
    go_loopw [8, 9, 10] (fun s8 s9 s10 wr => ∃ i : Nat, i ≤ m ∧ s9 = .int .i64 i ∧ s8 = .int .i64 (doneL (xs.take i)).length ∧ Hid (Below w3.heap.size w3 wr)) (fun _ s9 _ _ => m - (intOf s9).toNat)
    case atStart => exact ⟨0, by omega, rfl, rfl, HB0⟩
    case round =>
      obtain ⟨i, hi, rfl, rfl, hb⟩ := hrel
      by_cases hlt : i < m
      · have hki : (i : Int) < (m : Int) := by omega
        have hiw : IntKind.i64.wrap ((i : Int) + 1) = (i : Int) + 1 := by rw [IntKind.wrap_i64]; omega
        obtain ⟨x, hx⟩ : ∃ x, xs[i]? = some x := ⟨xs[i]'(by rw [HM.out]; exact hlt), List.getElem?_eq_getElem _⟩
        obtain ⟨gs, os, rfl, hgs, x0, x1, x2, x3, x4, x5, x6, x7, x8, x9, x10, x11, x12⟩ := ls_13 (HLS3.out.call hb.out) hx
        have HX := Lib.hid hx
        have HGS := Lib.hid hgs
        have hdl := done_len xs i
        obtain ⟨D, hD⟩ : ∃ D, (doneL (xs.take i)).length = D := ⟨_, rfl⟩
        rw [hD] at hdl ⊢
        have HD := Lib.hid hD
        have hdw : IntKind.i64.wrap ((D : Int) + 1) = (D : Int) + 1 := by rw [IntKind.wrap_i64]; omega
        clear hx hgs hD
        go_upto_if 36 with fail
        go_cut [8] (fun s8 wx => s8 = .int .i64 (doneL (xs.take (i + 1))).length ∧ wr = wx)
        case first =>
          by_cases ht : 0 ≤ x.turn
          · have HE := Lib.hid (show ((doneL (xs.take (i + 1))).length : Int) = (D : Int) + 1 from by rw [done_yes HX.out ht, List.length_append, HD.out]; rfl)
            go_wp2
            go_meet
            exact ⟨by rw [HE.out], rfl⟩
          · have HE := Lib.hid (show (doneL (xs.take (i + 1))).length = D from by rw [done_no HX.out ht, HD.out])
            go_wp2
            go_meet
            exact ⟨by rw [HE.out], rfl⟩
        case rest =>
          obtain ⟨rfl, rfl⟩ := hcut
          obtain ⟨D2, hD2⟩ : ∃ D2, (doneL (xs.take (i + 1))).length = D2 := ⟨_, rfl⟩
          rw [hD2]
          have HD2 := Lib.hid hD2
          clear hD2 x0 x1 x2 x3 x4 x5 x6 x7 x8 x9 x10 x11 x12
          go_wp2
          go_loopw [10] (fun s10 wr => ∃ k : Nat, k ≤ m ∧ s10 = .int .i64 k ∧ Hid (Below w3.heap.size w3 wr)) (fun s10 _ => m - (intOf s10).toNat)
          case atStart => exact ⟨0, by omega, rfl, hb⟩
          case round =>
            obtain ⟨k, hk, rfl, hb2⟩ := hrel
            by_cases hlt2 : k < m
            · have hki2 : (k : Int) < (m : Int) := by omega
              have hkw : IntKind.i64.wrap ((k : Int) + 1) = (k : Int) + 1 := by rw [IntKind.wrap_i64]; omega
              obtain ⟨y, hy⟩ : ∃ y, xs[k]? = some y := ⟨xs[k]'(by rw [HM.out]; exact hlt2), List.getElem?_eq_getElem _⟩
              obtain ⟨g1, o1, e1, hgs, x0, x1, x2, x3, x4, x5, x6, x7, x8, x9, x10, x11, x12⟩ := ls_13 (HLS3.out.call hb2.out) HX.out
              injection e1 with e1
              injection e1 with e1 e2
              subst e1 e2
              obtain ⟨g1, o1, e1, _, y0, y1, y2, y3, y4, y5, y6, y7, y8, y9, y10, y11, y12⟩ := ls_13 (HLS3.out.call hb2.out) hy
              injection e1 with e1
              injection e1 with e1 e2
              subst e1 e2
              have hS : ∀ X, Below wr.heap.size wr X → X.cell? ⟨gs, os + i * 13, none⟩ = some (.int .i64 x.c) ∧ X.cell? ⟨gs, os + i * 13 + 1, none⟩ = some (.int .i64 x.n) ∧ X.cell? ⟨gs, os + i * 13 + 2, none⟩ = some (.int .i64 x.call) ∧ X.cell? ⟨gs, os + i * 13 + 3, none⟩ = some (.int .i64 x.turn) ∧ X.cell? ⟨gs, os + i * 13 + 4, none⟩ = some (.int .i64 x.reply) ∧ X.cell? ⟨gs, os + i * 13 + 5, none⟩ = some (.int .i64 x.err) ∧ X.cell? ⟨gs, os + i * 13 + 6, none⟩ = some (.int .i64 x.tick) ∧ X.cell? ⟨gs, os + i * 13 + 7, none⟩ = some (.int .i64 0) ∧ X.cell? ⟨gs, os + i * 13 + 8, none⟩ = some (.int .i64 0) ∧ X.cell? ⟨gs, os + i * 13 + 9, none⟩ = some (.int .i64 0) ∧ X.cell? ⟨gs, os + i * 13 + 10, none⟩ = some (.int .i64 0) ∧ X.cell? ⟨gs, os + i * 13 + 11, none⟩ = some (.int .i64 0) ∧ X.cell? ⟨gs, os + i * 13 + 12, none⟩ = some (.int .i64 0) ∧ X.cell? ⟨gs, os + k * 13, none⟩ = some (.int .i64 y.c) ∧ X.cell? ⟨gs, os + k * 13 + 1, none⟩ = some (.int .i64 y.n) ∧ X.cell? ⟨gs, os + k * 13 + 2, none⟩ = some (.int .i64 y.call) ∧ X.cell? ⟨gs, os + k * 13 + 3, none⟩ = some (.int .i64 y.turn) ∧ X.cell? ⟨gs, os + k * 13 + 4, none⟩ = some (.int .i64 y.reply) ∧ X.cell? ⟨gs, os + k * 13 + 5, none⟩ = some (.int .i64 y.err) ∧ X.cell? ⟨gs, os + k * 13 + 6, none⟩ = some (.int .i64 y.tick) ∧ X.cell? ⟨gs, os + k * 13 + 7, none⟩ = some (.int .i64 0) ∧ X.cell? ⟨gs, os + k * 13 + 8, none⟩ = some (.int .i64 0) ∧ X.cell? ⟨gs, os + k * 13 + 9, none⟩ = some (.int .i64 0) ∧ X.cell? ⟨gs, os + k * 13 + 10, none⟩ = some (.int .i64 0) ∧ X.cell? ⟨gs, os + k * 13 + 11, none⟩ = some (.int .i64 0) ∧ X.cell? ⟨gs, os + k * 13 + 12, none⟩ = some (.int .i64 0) := fun X hX =>
                ⟨(hX.cell (p := ⟨gs, _, none⟩) hgs).trans x0, (hX.cell (p := ⟨gs, _, none⟩) hgs).trans x1, (hX.cell (p := ⟨gs, _, none⟩) hgs).trans x2, (hX.cell (p := ⟨gs, _, none⟩) hgs).trans x3, (hX.cell (p := ⟨gs, _, none⟩) hgs).trans x4, (hX.cell (p := ⟨gs, _, none⟩) hgs).trans x5, (hX.cell (p := ⟨gs, _, none⟩) hgs).trans x6, (hX.cell (p := ⟨gs, _, none⟩) hgs).trans x7, (hX.cell (p := ⟨gs, _, none⟩) hgs).trans x8, (hX.cell (p := ⟨gs, _, none⟩) hgs).trans x9, (hX.cell (p := ⟨gs, _, none⟩) hgs).trans x10, (hX.cell (p := ⟨gs, _, none⟩) hgs).trans x11, (hX.cell (p := ⟨gs, _, none⟩) hgs).trans x12, (hX.cell (p := ⟨gs, _, none⟩) hgs).trans y0, (hX.cell (p := ⟨gs, _, none⟩) hgs).trans y1, (hX.cell (p := ⟨gs, _, none⟩) hgs).trans y2, (hX.cell (p := ⟨gs, _, none⟩) hgs).trans y3, (hX.cell (p := ⟨gs, _, none⟩) hgs).trans y4, (hX.cell (p := ⟨gs, _, none⟩) hgs).trans y5, (hX.cell (p := ⟨gs, _, none⟩) hgs).trans y6, (hX.cell (p := ⟨gs, _, none⟩) hgs).trans y7, (hX.cell (p := ⟨gs, _, none⟩) hgs).trans y8, (hX.cell (p := ⟨gs, _, none⟩) hgs).trans y9, (hX.cell (p := ⟨gs, _, none⟩) hgs).trans y10, (hX.cell (p := ⟨gs, _, none⟩) hgs).trans y11, (hX.cell (p := ⟨gs, _, none⟩) hgs).trans y12⟩
              have HS := Lib.hid hS
              have HAH := Lib.hid (ahead_any x y)
              have HB : Hid (Below wr.heap.size wr wr.drew) := (Below.refl _ wr).drew
              clear hS hy hgs
              obtain ⟨r, hr⟩ : ∃ r, decide ((0 : Int) ≤ x.reply) = r := ⟨_, rfl⟩
              obtain ⟨d, hd⟩ : ∃ d, decide (x.reply < y.call) = d := ⟨_, rfl⟩
              have he : ahd x y = (r && d) := by unfold ahd; rw [hd, hr]
              rw [he] at HAH
              clear he
              go_upto_region 12 with fail
              cases r with
              | true =>
                refine wp_region_noPanic ?_
                refine wp_region_held_drew (S := (fun X => X.cell? ⟨gs, os + i * 13, none⟩ = some (.int .i64 x.c) ∧ X.cell? ⟨gs, os + i * 13 + 1, none⟩ = some (.int .i64 x.n) ∧ X.cell? ⟨gs, os + i * 13 + 2, none⟩ = some (.int .i64 x.call) ∧ X.cell? ⟨gs, os + i * 13 + 3, none⟩ = some (.int .i64 x.turn) ∧ X.cell? ⟨gs, os + i * 13 + 4, none⟩ = some (.int .i64 x.reply) ∧ X.cell? ⟨gs, os + i * 13 + 5, none⟩ = some (.int .i64 x.err) ∧ X.cell? ⟨gs, os + i * 13 + 6, none⟩ = some (.int .i64 x.tick) ∧ X.cell? ⟨gs, os + i * 13 + 7, none⟩ = some (.int .i64 0) ∧ X.cell? ⟨gs, os + i * 13 + 8, none⟩ = some (.int .i64 0) ∧ X.cell? ⟨gs, os + i * 13 + 9, none⟩ = some (.int .i64 0) ∧ X.cell? ⟨gs, os + i * 13 + 10, none⟩ = some (.int .i64 0) ∧ X.cell? ⟨gs, os + i * 13 + 11, none⟩ = some (.int .i64 0) ∧ X.cell? ⟨gs, os + i * 13 + 12, none⟩ = some (.int .i64 0) ∧ X.cell? ⟨gs, os + k * 13, none⟩ = some (.int .i64 y.c) ∧ X.cell? ⟨gs, os + k * 13 + 1, none⟩ = some (.int .i64 y.n) ∧ X.cell? ⟨gs, os + k * 13 + 2, none⟩ = some (.int .i64 y.call) ∧ X.cell? ⟨gs, os + k * 13 + 3, none⟩ = some (.int .i64 y.turn) ∧ X.cell? ⟨gs, os + k * 13 + 4, none⟩ = some (.int .i64 y.reply) ∧ X.cell? ⟨gs, os + k * 13 + 5, none⟩ = some (.int .i64 y.err) ∧ X.cell? ⟨gs, os + k * 13 + 6, none⟩ = some (.int .i64 y.tick) ∧ X.cell? ⟨gs, os + k * 13 + 7, none⟩ = some (.int .i64 0) ∧ X.cell? ⟨gs, os + k * 13 + 8, none⟩ = some (.int .i64 0) ∧ X.cell? ⟨gs, os + k * 13 + 9, none⟩ = some (.int .i64 0) ∧ X.cell? ⟨gs, os + k * 13 + 10, none⟩ = some (.int .i64 0) ∧ X.cell? ⟨gs, os + k * 13 + 11, none⟩ = some (.int .i64 0) ∧ X.cell? ⟨gs, os + k * 13 + 12, none⟩ = some (.int .i64 0))) (by kernel_rfl) ?_ (fun hHeld => ?_)
                · exact HS.out _ HB.out
                refine take_at 0 45 _ (v := ?v310) rfl rfl (by kernel_rfl) (by kernel_rfl) (by kernel_rfl) (fun _ _ _ h => h) (Or.inl ⟨by rfl, ?hy310⟩) (by assumption) ?rest310
                case hy310 =>
                  intro wX hSw
                  try dsimp only at hSw
                  go_simp
                  first
                  | done
                  | (with_reducible rfl)
                try simp only [Act.put, List.setIfInBounds_toArray, List.set_cons_zero, List.set_cons_succ]
                refine take_at 1 46 _ (v := ?v311) rfl rfl (by kernel_rfl) (by kernel_rfl) (by kernel_rfl) (fun _ _ _ h => h) (Or.inl ⟨by rfl, ?hy311⟩) (by assumption) ?rest311
                case hy311 =>
                  intro wX hSw
                  try dsimp only at hSw
                  go_simp
                  first
                  | done
                  | (with_reducible rfl)
                try simp only [Act.put, List.setIfInBounds_toArray, List.set_cons_zero, List.set_cons_succ]
                refine take_at 2 47 _ (v := ?v312) rfl rfl (by kernel_rfl) (by kernel_rfl) (by kernel_rfl) (fun _ _ _ h => h) (Or.inl ⟨by rfl, ?hy312⟩) (by assumption) ?rest312
                case hy312 =>
                  intro wX hSw
                  try dsimp only at hSw
                  go_simp
                  first
                  | done
                  | (with_reducible rfl)
                try simp only [Act.put, List.setIfInBounds_toArray, List.set_cons_zero, List.set_cons_succ]
                refine take_at 3 48 _ (v := ?v313) rfl rfl (by kernel_rfl) (by kernel_rfl) (by kernel_rfl) (fun _ _ _ h => h) (Or.inl ⟨by rfl, ?hy313⟩) (by assumption) ?rest313
                case hy313 =>
                  intro wX hSw
                  try dsimp only at hSw
                  go_simp
                  first
                  | done
                  | (with_reducible rfl)
                try simp only [Act.put, List.setIfInBounds_toArray, List.set_cons_zero, List.set_cons_succ]
                refine take_at 4 49 _ (v := ?v314) rfl rfl (by kernel_rfl) (by kernel_rfl) (by kernel_rfl) (fun _ _ _ h => h) (Or.inl ⟨by rfl, ?hy314⟩) (by assumption) ?rest314
                case hy314 =>
                  intro wX hSw
                  try dsimp only at hSw
                  go_simp
                  first
                  | done
                  | (with_reducible rfl)
                try simp only [Act.put, List.setIfInBounds_toArray, List.set_cons_zero, List.set_cons_succ]
                refine take_at 5 50 _ (v := ?v315) rfl rfl (by kernel_rfl) (by kernel_rfl) (by kernel_rfl) (fun _ _ _ h => h) (Or.inl ⟨by rfl, ?hy315⟩) (by assumption) ?rest315
                case hy315 =>
                  intro wX hSw
                  try dsimp only at hSw
                  go_simp
                  first
                  | done
                  | (with_reducible rfl)
                try simp only [Act.put, List.setIfInBounds_toArray, List.set_cons_zero, List.set_cons_succ]
                refine take_at 6 51 _ (v := ?v316) rfl rfl (by kernel_rfl) (by kernel_rfl) (by kernel_rfl) (fun _ _ _ h => h) (Or.inl ⟨by rfl, ?hy316⟩) (by assumption) ?rest316
                case hy316 =>
                  intro wX hSw
                  try dsimp only at hSw
                  go_simp
                  first
                  | done
                  | (with_reducible rfl)
                try simp only [Act.put, List.setIfInBounds_toArray, List.set_cons_zero, List.set_cons_succ]
                refine take_at 7 52 _ (v := ?v317) rfl rfl (by kernel_rfl) (by kernel_rfl) (by kernel_rfl) (fun _ _ _ h => h) (Or.inl ⟨by rfl, ?hy317⟩) (by assumption) ?rest317
                case hy317 =>
                  intro wX hSw
                  try dsimp only at hSw
                  go_simp
                  first
                  | done
                  | (with_reducible rfl)
                try simp only [Act.put, List.setIfInBounds_toArray, List.set_cons_zero, List.set_cons_succ]
                refine take_at 9 54 _ (v := ?v319) rfl rfl (by kernel_rfl) (by kernel_rfl) (by kernel_rfl) (fun _ _ _ h => h) (Or.inl ⟨by rfl, ?hy319⟩) (by assumption) ?rest319
                case hy319 =>
                  intro wX hSw
                  try dsimp only at hSw
                  go_simp
                  first
                  | done
                  | (with_reducible rfl)
                try simp only [Act.put, List.setIfInBounds_toArray, List.set_cons_zero, List.set_cons_succ]
                refine take_at 10 55 _ (v := ?v3110) rfl rfl (by kernel_rfl) (by kernel_rfl) (by kernel_rfl) (fun _ _ _ h => h) (Or.inl ⟨by rfl, ?hy3110⟩) (by assumption) ?rest3110
                case hy3110 =>
                  intro wX hSw
                  try dsimp only at hSw
                  go_simp
                  first
                  | done
                  | (with_reducible rfl)
                try simp only [Act.put, List.setIfInBounds_toArray, List.set_cons_zero, List.set_cons_succ]
                refine take_at 11 56 _ (v := ?v3111) rfl rfl (by kernel_rfl) (by kernel_rfl) (by kernel_rfl) (fun _ _ _ h => h) (Or.inl ⟨by rfl, ?hy3111⟩) (by assumption) ?rest3111
                case hy3111 =>
                  intro wX hSw
                  try dsimp only at hSw
                  go_simp
                  first
                  | done
                  | (with_reducible rfl)
                try simp only [Act.put, List.setIfInBounds_toArray, List.set_cons_zero, List.set_cons_succ]
                refine take_at 12 57 _ (v := ?v3112) rfl rfl (by kernel_rfl) (by kernel_rfl) (by kernel_rfl) (fun _ _ _ h => h) (Or.inl ⟨by rfl, ?hy3112⟩) (by assumption) ?rest3112
                case hy3112 =>
                  intro wX hSw
                  try dsimp only at hSw
                  go_simp
                  first
                  | done
                  | (with_reducible rfl)
                try simp only [Act.put, List.setIfInBounds_toArray, List.set_cons_zero, List.set_cons_succ]
                refine take_at 13 58 _ (v := ?v3113) rfl rfl (by kernel_rfl) (by kernel_rfl) (by kernel_rfl) (fun _ _ _ h => h) (Or.inl ⟨by rfl, ?hy3113⟩) (by assumption) ?rest3113
                case hy3113 =>
                  intro wX hSw
                  try dsimp only at hSw
                  go_simp
                  first
                  | done
                  | (with_reducible rfl)
                try simp only [Act.put, List.setIfInBounds_toArray, List.set_cons_zero, List.set_cons_succ]
                refine take_at 14 59 _ (v := ?v3114) rfl rfl (by kernel_rfl) (by kernel_rfl) (by kernel_rfl) (fun _ _ _ h => h) (Or.inl ⟨by rfl, ?hy3114⟩) (by assumption) ?rest3114
                case hy3114 =>
                  intro wX hSw
                  try dsimp only at hSw
                  go_simp
                  first
                  | done
                  | (with_reducible rfl)
                try simp only [Act.put, List.setIfInBounds_toArray, List.set_cons_zero, List.set_cons_succ]
                refine wpAnyH_ready (rs := [8]) (by kernel_rfl) (by simp) ?_
                refine AllReadyH.cons rfl (fun K hK => ?_) AllReadyH.nil
                go_simp
                go_at_call 49
                (with_reducible refine (HAH.out _).mono ?_)
                rintro e w5 ⟨rfl, hb⟩
                have h3 := HB.out.trans (hb.mono HB.out.size)
                clear HB
                have HB := Lib.hid h3
                clear hb h3
                try go_wp2_with fail
                refine hK.out _ _ ?_ (fun hHeld => ?_)
                · exact HS.out _ HB.out
                clear hK K
                try simp only [Act.put, List.setIfInBounds_toArray, List.set_cons_zero, List.set_cons_succ]
                refine take_at 15 60 _ (v := ?v3115) rfl rfl (by kernel_rfl) (by kernel_rfl) (by kernel_rfl) (fun _ _ _ h => h) (Or.inl ⟨by rfl, ?hy3115⟩) (by assumption) ?rest3115
                case hy3115 =>
                  intro wX hSw
                  try dsimp only at hSw
                  go_simp
                  first
                  | done
                  | (with_reducible rfl)
                try simp only [Act.put, List.setIfInBounds_toArray, List.set_cons_zero, List.set_cons_succ]
                refine take_at 16 61 _ (v := ?v3116) rfl rfl (by kernel_rfl) (by kernel_rfl) (by kernel_rfl) (fun _ _ _ h => h) (Or.inl ⟨by rfl, ?hy3116⟩) (by assumption) ?rest3116
                case hy3116 =>
                  intro wX hSw
                  try dsimp only at hSw
                  go_simp
                  first
                  | done
                  | (with_reducible rfl)
                try simp only [Act.put, List.setIfInBounds_toArray, List.set_cons_zero, List.set_cons_succ]
                refine take_at 17 62 _ (v := ?v3117) rfl rfl (by kernel_rfl) (by kernel_rfl) (by kernel_rfl) (fun _ _ _ h => h) (Or.inl ⟨by rfl, ?hy3117⟩) (by assumption) ?rest3117
                case hy3117 =>
                  intro wX hSw
                  try dsimp only at hSw
                  go_simp
                  first
                  | done
                  | (with_reducible rfl)
                try simp only [Act.put, List.setIfInBounds_toArray, List.set_cons_zero, List.set_cons_succ]
                refine take_at 18 63 _ (v := ?v3118) rfl rfl (by kernel_rfl) (by kernel_rfl) (by kernel_rfl) (fun _ _ _ h => h) (Or.inl ⟨by rfl, ?hy3118⟩) (by assumption) ?rest3118
                case hy3118 =>
                  intro wX hSw
                  try dsimp only at hSw
                  go_simp
                  first
                  | done
                  | (with_reducible rfl)
                try simp only [Act.put, List.setIfInBounds_toArray, List.set_cons_zero, List.set_cons_succ]
                refine take_at 19 64 _ (v := ?v3119) rfl rfl (by kernel_rfl) (by kernel_rfl) (by kernel_rfl) (fun _ _ _ h => h) (Or.inl ⟨by rfl, ?hy3119⟩) (by assumption) ?rest3119
                case hy3119 =>
                  intro wX hSw
                  try dsimp only at hSw
                  go_simp
                  first
                  | done
                  | (with_reducible rfl)
                try simp only [Act.put, List.setIfInBounds_toArray, List.set_cons_zero, List.set_cons_succ]
                refine take_at 20 65 _ (v := ?v3120) rfl rfl (by kernel_rfl) (by kernel_rfl) (by kernel_rfl) (fun _ _ _ h => h) (Or.inl ⟨by rfl, ?hy3120⟩) (by assumption) ?rest3120
                case hy3120 =>
                  intro wX hSw
                  try dsimp only at hSw
                  go_simp
                  first
                  | done
                  | (with_reducible rfl)
                try simp only [Act.put, List.setIfInBounds_toArray, List.set_cons_zero, List.set_cons_succ]
                refine take_at 21 66 _ (v := ?v3121) rfl rfl (by kernel_rfl) (by kernel_rfl) (by kernel_rfl) (fun _ _ _ h => h) (Or.inl ⟨by rfl, ?hy3121⟩) (by assumption) ?rest3121
                case hy3121 =>
                  intro wX hSw
                  try dsimp only at hSw
                  go_simp
                  first
                  | done
                  | (with_reducible rfl)
                try simp only [Act.put, List.setIfInBounds_toArray, List.set_cons_zero, List.set_cons_succ]
                refine take_at 22 67 _ (v := ?v3122) rfl rfl (by kernel_rfl) (by kernel_rfl) (by kernel_rfl) (fun _ _ _ h => h) (Or.inl ⟨by rfl, ?hy3122⟩) (by assumption) ?rest3122
                case hy3122 =>
                  intro wX hSw
                  try dsimp only at hSw
                  go_simp
                  first
                  | done
                  | (with_reducible rfl)
                try simp only [Act.put, List.setIfInBounds_toArray, List.set_cons_zero, List.set_cons_succ]
                refine take_at 23 68 _ (v := ?v3123) rfl rfl (by kernel_rfl) (by kernel_rfl) (by kernel_rfl) (fun _ _ _ h => h) (Or.inl ⟨by rfl, ?hy3123⟩) (by assumption) ?rest3123
                case hy3123 =>
                  intro wX hSw
                  try dsimp only at hSw
                  go_simp
                  first
                  | done
                  | (with_reducible rfl)
                try simp only [Act.put, List.setIfInBounds_toArray, List.set_cons_zero, List.set_cons_succ]
                refine take_at 24 69 _ (v := ?v3124) rfl rfl (by kernel_rfl) (by kernel_rfl) (by kernel_rfl) (fun _ _ _ h => h) (Or.inl ⟨by rfl, ?hy3124⟩) (by assumption) ?rest3124
                case hy3124 =>
                  intro wX hSw
                  try dsimp only at hSw
                  go_simp
                  first
                  | done
                  | (with_reducible rfl)
                try simp only [Act.put, List.setIfInBounds_toArray, List.set_cons_zero, List.set_cons_succ]
                refine take_at 25 70 _ (v := ?v3125) rfl rfl (by kernel_rfl) (by kernel_rfl) (by kernel_rfl) (fun _ _ _ h => h) (Or.inl ⟨by rfl, ?hy3125⟩) (by assumption) ?rest3125
                case hy3125 =>
                  intro wX hSw
                  try dsimp only at hSw
                  go_simp
                  first
                  | done
                  | (with_reducible rfl)
                try simp only [Act.put, List.setIfInBounds_toArray, List.set_cons_zero, List.set_cons_succ]
                refine take_at 26 71 _ (v := ?v3126) rfl rfl (by kernel_rfl) (by kernel_rfl) (by kernel_rfl) (fun _ _ _ h => h) (Or.inl ⟨by rfl, ?hy3126⟩) (by assumption) ?rest3126
                case hy3126 =>
                  intro wX hSw
                  try dsimp only at hSw
                  go_simp
                  first
                  | done
                  | (with_reducible rfl)
                try simp only [Act.put, List.setIfInBounds_toArray, List.set_cons_zero, List.set_cons_succ]
                refine take_at 27 72 _ (v := ?v3127) rfl rfl (by kernel_rfl) (by kernel_rfl) (by kernel_rfl) (fun _ _ _ h => h) (Or.inl ⟨by rfl, ?hy3127⟩) (by assumption) ?rest3127
                case hy3127 =>
                  intro wX hSw
                  try dsimp only at hSw
                  go_simp
                  first
                  | done
                  | (with_reducible rfl)
                try simp only [Act.put, List.setIfInBounds_toArray, List.set_cons_zero, List.set_cons_succ]
                refine take_at 28 73 _ (v := ?v3128) rfl rfl (by kernel_rfl) (by kernel_rfl) (by kernel_rfl) (fun _ _ _ h => h) (Or.inl ⟨by rfl, ?hy3128⟩) (by assumption) ?rest3128
                case hy3128 =>
                  intro wX hSw
                  try dsimp only at hSw
                  go_simp
                  first
                  | done
                  | (with_reducible rfl)
                try simp only [Act.put, List.setIfInBounds_toArray, List.set_cons_zero, List.set_cons_succ]
                refine wpAnyH_done (by kernel_rfl) ?_ _
                refine NoPanic.normal ?_
                go_wp2
                go_roundw
                case rel => exact ⟨k + 1, by omega, by go_num, Lib.hid (hb2.out.trans (HB.out.mono hb2.out.size))⟩
                case measure => simp [intOf]; omega

              | false =>
                have hl3 : ¬ 0 ≤ x.reply := of_decide_eq_false hr
                have hl1 : x.reply < 0 := by omega
                refine wp_region_noPanic ?_
                refine wp_region_held_drew (S := (fun X => X.cell? ⟨gs, os + i * 13, none⟩ = some (.int .i64 x.c) ∧ X.cell? ⟨gs, os + i * 13 + 1, none⟩ = some (.int .i64 x.n) ∧ X.cell? ⟨gs, os + i * 13 + 2, none⟩ = some (.int .i64 x.call) ∧ X.cell? ⟨gs, os + i * 13 + 3, none⟩ = some (.int .i64 x.turn) ∧ X.cell? ⟨gs, os + i * 13 + 4, none⟩ = some (.int .i64 x.reply) ∧ X.cell? ⟨gs, os + i * 13 + 5, none⟩ = some (.int .i64 x.err) ∧ X.cell? ⟨gs, os + i * 13 + 6, none⟩ = some (.int .i64 x.tick) ∧ X.cell? ⟨gs, os + i * 13 + 7, none⟩ = some (.int .i64 0) ∧ X.cell? ⟨gs, os + i * 13 + 8, none⟩ = some (.int .i64 0) ∧ X.cell? ⟨gs, os + i * 13 + 9, none⟩ = some (.int .i64 0) ∧ X.cell? ⟨gs, os + i * 13 + 10, none⟩ = some (.int .i64 0) ∧ X.cell? ⟨gs, os + i * 13 + 11, none⟩ = some (.int .i64 0) ∧ X.cell? ⟨gs, os + i * 13 + 12, none⟩ = some (.int .i64 0) ∧ X.cell? ⟨gs, os + k * 13, none⟩ = some (.int .i64 y.c) ∧ X.cell? ⟨gs, os + k * 13 + 1, none⟩ = some (.int .i64 y.n) ∧ X.cell? ⟨gs, os + k * 13 + 2, none⟩ = some (.int .i64 y.call) ∧ X.cell? ⟨gs, os + k * 13 + 3, none⟩ = some (.int .i64 y.turn) ∧ X.cell? ⟨gs, os + k * 13 + 4, none⟩ = some (.int .i64 y.reply) ∧ X.cell? ⟨gs, os + k * 13 + 5, none⟩ = some (.int .i64 y.err) ∧ X.cell? ⟨gs, os + k * 13 + 6, none⟩ = some (.int .i64 y.tick) ∧ X.cell? ⟨gs, os + k * 13 + 7, none⟩ = some (.int .i64 0) ∧ X.cell? ⟨gs, os + k * 13 + 8, none⟩ = some (.int .i64 0) ∧ X.cell? ⟨gs, os + k * 13 + 9, none⟩ = some (.int .i64 0) ∧ X.cell? ⟨gs, os + k * 13 + 10, none⟩ = some (.int .i64 0) ∧ X.cell? ⟨gs, os + k * 13 + 11, none⟩ = some (.int .i64 0) ∧ X.cell? ⟨gs, os + k * 13 + 12, none⟩ = some (.int .i64 0))) (by kernel_rfl) ?_ (fun hHeld => ?_)
                · exact HS.out _ HB.out
                refine take_at 0 45 _ (v := ?v320) rfl rfl (by kernel_rfl) (by kernel_rfl) (by kernel_rfl) (fun _ _ _ h => h) (Or.inl ⟨by rfl, ?hy320⟩) (by assumption) ?rest320
                case hy320 =>
                  intro wX hSw
                  try dsimp only at hSw
                  go_simp
                  first
                  | done
                  | (with_reducible rfl)
                try simp only [Act.put, List.setIfInBounds_toArray, List.set_cons_zero, List.set_cons_succ]
                refine take_at 1 46 _ (v := ?v321) rfl rfl (by kernel_rfl) (by kernel_rfl) (by kernel_rfl) (fun _ _ _ h => h) (Or.inl ⟨by rfl, ?hy321⟩) (by assumption) ?rest321
                case hy321 =>
                  intro wX hSw
                  try dsimp only at hSw
                  go_simp
                  first
                  | done
                  | (with_reducible rfl)
                try simp only [Act.put, List.setIfInBounds_toArray, List.set_cons_zero, List.set_cons_succ]
                refine take_at 2 47 _ (v := ?v322) rfl rfl (by kernel_rfl) (by kernel_rfl) (by kernel_rfl) (fun _ _ _ h => h) (Or.inl ⟨by rfl, ?hy322⟩) (by assumption) ?rest322
                case hy322 =>
                  intro wX hSw
                  try dsimp only at hSw
                  go_simp
                  first
                  | done
                  | (with_reducible rfl)
                try simp only [Act.put, List.setIfInBounds_toArray, List.set_cons_zero, List.set_cons_succ]
                refine take_at 3 48 _ (v := ?v323) rfl rfl (by kernel_rfl) (by kernel_rfl) (by kernel_rfl) (fun _ _ _ h => h) (Or.inl ⟨by rfl, ?hy323⟩) (by assumption) ?rest323
                case hy323 =>
                  intro wX hSw
                  try dsimp only at hSw
                  go_simp
                  first
                  | done
                  | (with_reducible rfl)
                try simp only [Act.put, List.setIfInBounds_toArray, List.set_cons_zero, List.set_cons_succ]
                refine take_at 4 49 _ (v := ?v324) rfl rfl (by kernel_rfl) (by kernel_rfl) (by kernel_rfl) (fun _ _ _ h => h) (Or.inl ⟨by rfl, ?hy324⟩) (by assumption) ?rest324
                case hy324 =>
                  intro wX hSw
                  try dsimp only at hSw
                  go_simp
                  first
                  | done
                  | (with_reducible rfl)
                try simp only [Act.put, List.setIfInBounds_toArray, List.set_cons_zero, List.set_cons_succ]
                refine take_at 5 50 _ (v := ?v325) rfl rfl (by kernel_rfl) (by kernel_rfl) (by kernel_rfl) (fun _ _ _ h => h) (Or.inl ⟨by rfl, ?hy325⟩) (by assumption) ?rest325
                case hy325 =>
                  intro wX hSw
                  try dsimp only at hSw
                  go_simp
                  first
                  | done
                  | (with_reducible rfl)
                try simp only [Act.put, List.setIfInBounds_toArray, List.set_cons_zero, List.set_cons_succ]
                refine take_at 6 51 _ (v := ?v326) rfl rfl (by kernel_rfl) (by kernel_rfl) (by kernel_rfl) (fun _ _ _ h => h) (Or.inl ⟨by rfl, ?hy326⟩) (by assumption) ?rest326
                case hy326 =>
                  intro wX hSw
                  try dsimp only at hSw
                  go_simp
                  first
                  | done
                  | (with_reducible rfl)
                try simp only [Act.put, List.setIfInBounds_toArray, List.set_cons_zero, List.set_cons_succ]
                refine take_at 7 52 _ (v := ?v327) rfl rfl (by kernel_rfl) (by kernel_rfl) (by kernel_rfl) (fun _ _ _ h => h) (Or.inl ⟨by rfl, ?hy327⟩) (by assumption) ?rest327
                case hy327 =>
                  intro wX hSw
                  try dsimp only at hSw
                  go_simp
                  first
                  | done
                  | (with_reducible rfl)
                try simp only [Act.put, List.setIfInBounds_toArray, List.set_cons_zero, List.set_cons_succ]
                refine take_at 9 54 _ (v := ?v329) rfl rfl (by kernel_rfl) (by kernel_rfl) (by kernel_rfl) (fun _ _ _ h => h) (Or.inl ⟨by rfl, ?hy329⟩) (by assumption) ?rest329
                case hy329 =>
                  intro wX hSw
                  try dsimp only at hSw
                  go_simp
                  first
                  | done
                  | (with_reducible rfl)
                try simp only [Act.put, List.setIfInBounds_toArray, List.set_cons_zero, List.set_cons_succ]
                refine take_at 10 55 _ (v := ?v3210) rfl rfl (by kernel_rfl) (by kernel_rfl) (by kernel_rfl) (fun _ _ _ h => h) (Or.inl ⟨by rfl, ?hy3210⟩) (by assumption) ?rest3210
                case hy3210 =>
                  intro wX hSw
                  try dsimp only at hSw
                  go_simp
                  first
                  | done
                  | (with_reducible rfl)
                try simp only [Act.put, List.setIfInBounds_toArray, List.set_cons_zero, List.set_cons_succ]
                refine take_at 11 56 _ (v := ?v3211) rfl rfl (by kernel_rfl) (by kernel_rfl) (by kernel_rfl) (fun _ _ _ h => h) (Or.inl ⟨by rfl, ?hy3211⟩) (by assumption) ?rest3211
                case hy3211 =>
                  intro wX hSw
                  try dsimp only at hSw
                  go_simp
                  first
                  | done
                  | (with_reducible rfl)
                try simp only [Act.put, List.setIfInBounds_toArray, List.set_cons_zero, List.set_cons_succ]
                refine take_at 12 57 _ (v := ?v3212) rfl rfl (by kernel_rfl) (by kernel_rfl) (by kernel_rfl) (fun _ _ _ h => h) (Or.inl ⟨by rfl, ?hy3212⟩) (by assumption) ?rest3212
                case hy3212 =>
                  intro wX hSw
                  try dsimp only at hSw
                  go_simp
                  first
                  | done
                  | (with_reducible rfl)
                try simp only [Act.put, List.setIfInBounds_toArray, List.set_cons_zero, List.set_cons_succ]
                refine take_at 13 58 _ (v := ?v3213) rfl rfl (by kernel_rfl) (by kernel_rfl) (by kernel_rfl) (fun _ _ _ h => h) (Or.inl ⟨by rfl, ?hy3213⟩) (by assumption) ?rest3213
                case hy3213 =>
                  intro wX hSw
                  try dsimp only at hSw
                  go_simp
                  first
                  | done
                  | (with_reducible rfl)
                try simp only [Act.put, List.setIfInBounds_toArray, List.set_cons_zero, List.set_cons_succ]
                refine take_at 14 59 _ (v := ?v3214) rfl rfl (by kernel_rfl) (by kernel_rfl) (by kernel_rfl) (fun _ _ _ h => h) (Or.inl ⟨by rfl, ?hy3214⟩) (by assumption) ?rest3214
                case hy3214 =>
                  intro wX hSw
                  try dsimp only at hSw
                  go_simp
                  first
                  | done
                  | (with_reducible rfl)
                try simp only [Act.put, List.setIfInBounds_toArray, List.set_cons_zero, List.set_cons_succ]
                refine wpAnyH_ready (rs := [8]) (by kernel_rfl) (by simp) ?_
                refine AllReadyH.cons rfl (fun K hK => ?_) AllReadyH.nil
                go_simp
                go_at_call 49
                (with_reducible refine (HAH.out _).mono ?_)
                rintro e w5 ⟨rfl, hb⟩
                have h3 := HB.out.trans (hb.mono HB.out.size)
                clear HB
                have HB := Lib.hid h3
                clear hb h3
                try go_wp2_with fail
                refine hK.out _ _ ?_ (fun hHeld => ?_)
                · exact HS.out _ HB.out
                clear hK K
                try simp only [Act.put, List.setIfInBounds_toArray, List.set_cons_zero, List.set_cons_succ]
                refine take_at 15 60 _ (v := ?v3215) rfl rfl (by kernel_rfl) (by kernel_rfl) (by kernel_rfl) (fun _ _ _ h => h) (Or.inl ⟨by rfl, ?hy3215⟩) (by assumption) ?rest3215
                case hy3215 =>
                  intro wX hSw
                  try dsimp only at hSw
                  go_simp
                  first
                  | done
                  | (with_reducible rfl)
                try simp only [Act.put, List.setIfInBounds_toArray, List.set_cons_zero, List.set_cons_succ]
                refine take_at 16 61 _ (v := undef) rfl rfl (by kernel_rfl) (by kernel_rfl) (by kernel_rfl) (fun _ _ _ h => h) (Or.inr ⟨by rfl, rfl⟩) (by assumption) ?_
                try simp only [Act.put, List.setIfInBounds_toArray, List.set_cons_zero, List.set_cons_succ]
                refine take_at 17 62 _ (v := undef) rfl rfl (by kernel_rfl) (by kernel_rfl) (by kernel_rfl) (fun _ _ _ h => h) (Or.inr ⟨by rfl, rfl⟩) (by assumption) ?_
                try simp only [Act.put, List.setIfInBounds_toArray, List.set_cons_zero, List.set_cons_succ]
                refine take_at 18 63 _ (v := undef) rfl rfl (by kernel_rfl) (by kernel_rfl) (by kernel_rfl) (fun _ _ _ h => h) (Or.inr ⟨by rfl, rfl⟩) (by assumption) ?_
                try simp only [Act.put, List.setIfInBounds_toArray, List.set_cons_zero, List.set_cons_succ]
                refine take_at 19 64 _ (v := undef) rfl rfl (by kernel_rfl) (by kernel_rfl) (by kernel_rfl) (fun _ _ _ h => h) (Or.inr ⟨by rfl, rfl⟩) (by assumption) ?_
                try simp only [Act.put, List.setIfInBounds_toArray, List.set_cons_zero, List.set_cons_succ]
                refine take_at 20 65 _ (v := undef) rfl rfl (by kernel_rfl) (by kernel_rfl) (by kernel_rfl) (fun _ _ _ h => h) (Or.inr ⟨by rfl, rfl⟩) (by assumption) ?_
                try simp only [Act.put, List.setIfInBounds_toArray, List.set_cons_zero, List.set_cons_succ]
                refine take_at 21 66 _ (v := undef) rfl rfl (by kernel_rfl) (by kernel_rfl) (by kernel_rfl) (fun _ _ _ h => h) (Or.inr ⟨by rfl, rfl⟩) (by assumption) ?_
                try simp only [Act.put, List.setIfInBounds_toArray, List.set_cons_zero, List.set_cons_succ]
                refine take_at 22 67 _ (v := undef) rfl rfl (by kernel_rfl) (by kernel_rfl) (by kernel_rfl) (fun _ _ _ h => h) (Or.inr ⟨by rfl, rfl⟩) (by assumption) ?_
                try simp only [Act.put, List.setIfInBounds_toArray, List.set_cons_zero, List.set_cons_succ]
                refine take_at 23 68 _ (v := undef) rfl rfl (by kernel_rfl) (by kernel_rfl) (by kernel_rfl) (fun _ _ _ h => h) (Or.inr ⟨by rfl, rfl⟩) (by assumption) ?_
                try simp only [Act.put, List.setIfInBounds_toArray, List.set_cons_zero, List.set_cons_succ]
                refine take_at 24 69 _ (v := undef) rfl rfl (by kernel_rfl) (by kernel_rfl) (by kernel_rfl) (fun _ _ _ h => h) (Or.inr ⟨by rfl, rfl⟩) (by assumption) ?_
                try simp only [Act.put, List.setIfInBounds_toArray, List.set_cons_zero, List.set_cons_succ]
                refine take_at 25 70 _ (v := undef) rfl rfl (by kernel_rfl) (by kernel_rfl) (by kernel_rfl) (fun _ _ _ h => h) (Or.inr ⟨by rfl, rfl⟩) (by assumption) ?_
                try simp only [Act.put, List.setIfInBounds_toArray, List.set_cons_zero, List.set_cons_succ]
                refine take_at 26 71 _ (v := undef) rfl rfl (by kernel_rfl) (by kernel_rfl) (by kernel_rfl) (fun _ _ _ h => h) (Or.inr ⟨by rfl, rfl⟩) (by assumption) ?_
                try simp only [Act.put, List.setIfInBounds_toArray, List.set_cons_zero, List.set_cons_succ]
                refine take_at 27 72 _ (v := ?v3227) rfl rfl (by kernel_rfl) (by kernel_rfl) (by kernel_rfl) (fun _ _ _ h => h) (Or.inl ⟨by rfl, ?hy3227⟩) (by assumption) ?rest3227
                case hy3227 =>
                  intro wX hSw
                  try dsimp only at hSw
                  go_simp
                  first
                  | done
                  | (with_reducible rfl)
                try simp only [Act.put, List.setIfInBounds_toArray, List.set_cons_zero, List.set_cons_succ]
                refine take_at 28 73 _ (v := ?v3228) rfl rfl (by kernel_rfl) (by kernel_rfl) (by kernel_rfl) (fun _ _ _ h => h) (Or.inl ⟨by rfl, ?hy3228⟩) (by assumption) ?rest3228
                case hy3228 =>
                  intro wX hSw
                  try dsimp only at hSw
                  go_simp
                  first
                  | done
                  | (with_reducible rfl)
                try simp only [Act.put, List.setIfInBounds_toArray, List.set_cons_zero, List.set_cons_succ]
                refine wpAnyH_done (by kernel_rfl) ?_ _
                refine NoPanic.normal ?_
                go_wp2
                go_roundw
                case rel => exact ⟨k + 1, by omega, by go_num, Lib.hid (hb2.out.trans (HB.out.mono hb2.out.size))⟩
                case measure => simp [intOf]; omega

            · have hki2 : ¬ (k : Int) < (m : Int) := by omega
              clear hlt2 hk
              go_wp2
              go_roundw
              case rel => exact ⟨i + 1, by omega, by go_num, by rw [HD2.out], hb2⟩
              case measure => simp [intOf]; omega
      · obtain rfl : i = m := by omega
        have hki : ¬ (i : Int) < (i : Int) := by omega
        have HE := Lib.hid (show (doneL (xs.take i)).length = N from by rw [List.take_of_length_le (by rw [HM.out]; omega), HN.out])
        rw [HE.out]
        clear hlt
        go_wp2
        go_meet
        exact ⟨rfl, hb⟩
  case rest =>
    obtain ⟨rfl, hb4⟩ := hcut
    have hL0 : OL w2.heap.size w3 AO (isort (doneL xs)) := HOL.out
    have HLN2 := Lib.hid (show (isort (doneL xs)).length = N from by rw [isort_len, HN.out])
    have HFF := Lib.hid HFI.out
    obtain ⟨L, hL⟩ : ∃ L, isort (doneL xs) = L := ⟨_, rfl⟩
    rw [hL] at hL0 HLN2 HFF
    have HO3 := Lib.hid hL0
    clear hL0 hL HFI HOL HLS3 HM HV
    have HRS := Lib.hid (resp_any AO N co L wc ((HO3.out.call hb4.out).ls) HLN2.out ho1 ho2 (by omega))
    rw [show respB L = true from (respB_iff _).2 HFF.out.no] at HRS
    go_wp2_with fail
    refine HRS.out.mono ?_
    rintro e w5 ⟨rfl, hb5⟩
    have HO5 := Lib.hid ((HO3.out.call hb4.out).call hb5)
    have HBW5 := Lib.hid ((HB3.out.trans (hb4.out.mono HB3.out.size)).trans (hb5.mono (HB3.out.trans (hb4.out.mono HB3.out.size)).size))
    have HGE5 := Lib.hid (show w.heap.size ≤ w2.heap.size from HGE.out)
    have HB50 := Lib.hid (Below.refl w5.heap.size w5)
    clear hb5 HRS HO3 hb4 HB3
    go_wp2
    go_loopw [11] (fun s11 wr => ∃ i : Nat, 1 ≤ i ∧ i ≤ N + 1 ∧ s11 = .int .i64 i ∧ Hid (Below w5.heap.size w5 wr)) (fun s11 _ => N + 1 - (intOf s11).toNat)
    case atStart => exact ⟨1, by omega, by omega, rfl, HB50⟩
    case round =>
      obtain ⟨i, hi1, hi2, rfl, hb6⟩ := hrel
      by_cases hlt : i < N
      · have hki : (i : Int) < (N : Int) := by omega
        have hiw : IntKind.i64.wrap ((i : Int) + 1) = (i : Int) + 1 := by rw [IntKind.wrap_i64]; omega
        obtain ⟨j, hj⟩ : ∃ j, i = j + 1 := ⟨i - 1, by omega⟩
        have hjw : IntKind.i64.wrap ((i : Int) - 1) = (j : Int) := by rw [IntKind.wrap_i64]; omega
        have hjn : (j : Int) < (N : Int) := by omega
        have hj0 : (0 : Int) ≤ (j : Int) := by omega
        obtain ⟨x, hx⟩ : ∃ x, L[j]? = some x := ⟨L[j]'(by rw [HLN2.out]; omega), List.getElem?_eq_getElem _⟩
        obtain ⟨y, hy⟩ : ∃ y, L[i]? = some y := ⟨L[i]'(by rw [HLN2.out]; omega), List.getElem?_eq_getElem _⟩
        have hup := HFF.out.up j i x y hx hy (by omega)
        obtain ⟨gs, os, rfl, hgs, x0, x1, x2, x3, x4, x5, x6, x7, x8, x9, x10, x11, x12⟩ := ls_13 ((HO5.out.call hb6.out).ls) hx
        obtain ⟨g1, o1, e1, _, y0, y1, y2, y3, y4, y5, y6, y7, y8, y9, y10, y11, y12⟩ := ls_13 ((HO5.out.call hb6.out).ls) hy
        injection e1 with e1
        injection e1 with e1 e2
        subst e1 e2
        have hno : ¬ y.turn ≤ x.turn := by omega
        clear hx hy hj hgs
        go_upto_region 19 with fail
        go_quiet (fail)
        go_wp2
        go_roundw
        case rel => exact ⟨i + 1, by omega, by omega, by go_num, Lib.hid (below_drewN hb6.out nq)⟩
        case measure => simp [intOf]; omega
      · have hki : ¬ (i : Int) < (N : Int) := by omega
        have HO6 := Lib.hid (HO5.out.call hb6.out)
        have HBW6 := Lib.hid (HBW5.out.trans (hb6.out.mono HBW5.out.size))
        clear hlt hi1 hi2 hb6 HO5 HBW5 HB50
        by_cases hN2 : N < 2
        · have hn2 : (N : Int) < 2 := by omega
          have HAW := Lib.hid (awake_any wr)
          go_wp2_with fail
          refine HAW.out.mono ?_
          rintro e w7 ⟨rfl, hb7⟩
          go_wp2
          go_ret
          exact ⟨rfl, HBW6.out.trans (hb7.mono HBW6.out.size)⟩
        · have hn2 : ¬ (N : Int) < 2 := by omega
          have a255 := and255 sw
          have b255 := and255 (sw / 256)
          obtain ⟨u, hu⟩ : ∃ u, sw % 256 = u := ⟨_, rfl⟩
          obtain ⟨v, hv⟩ : ∃ v, sw / 256 % 256 = v := ⟨_, rfl⟩
          rw [hu] at a255
          rw [hv] at b255
          have tm : ∀ t : Int, 0 ≤ t → ∃ p : Nat, t.tmod (N : Int) = (p : Int) ∧ p < N := fun t t0 => ⟨(t.tmod (N : Int)).toNat, by
            rw [Int.tmod_eq_emod_of_nonneg t0]
            have := Int.emod_nonneg t (show (N : Int) ≠ 0 by omega)
            omega, by
            rw [Int.tmod_eq_emod_of_nonneg t0]
            have := Int.emod_nonneg t (show (N : Int) ≠ 0 by omega)
            have := Int.emod_lt_of_pos t (show (0 : Int) < (N : Int) by omega)
            omega⟩
          obtain ⟨p, hp, hpN⟩ := tm u (by omega)
          obtain ⟨q, hq, hqN⟩ := tm v (by omega)
          have hne : ((N : Int) == 0) = false := by rw [beq_eq_false_iff_ne]; omega
          have hne' : ¬ ((N : Int) = 0) := by omega
          have hwp : IntKind.i64.wrap (p : Int) = p := by rw [IntKind.wrap_i64]; omega
          have hwq : IntKind.i64.wrap (q : Int) = q := by rw [IntKind.wrap_i64]; omega
          clear tm hu hv
          go_upto_region 23 with fail
          go_region
          go_upto_region 24 with fail
          have HOD := Lib.hid (HO6.out.call (Below.refl _ wr).drew)
          have HBD := Lib.hid (HBW6.out.trans ((Below.refl _ wr).drew.mono HBW6.out.size))
          generalize wr.drew = V at HOD HBD ⊢
          have hp0 : (0 : Int) ≤ (p : Int) := by omega
          have hq0 : (0 : Int) ≤ (q : Int) := by omega
          have hpz : (p : Int) < (N : Int) := by omega
          have hqz : (q : Int) < (N : Int) := by omega
          obtain ⟨x, hx⟩ : ∃ x, L[p]? = some x := ⟨L[p]'(by rw [HLN2.out]; exact hpN), List.getElem?_eq_getElem _⟩
          obtain ⟨y, hy⟩ : ∃ y, L[q]? = some y := ⟨L[q]'(by rw [HLN2.out]; exact hqN), List.getElem?_eq_getElem _⟩
          obtain ⟨g, o, rfl, hdl, hg, hge⟩ := HOD.out (by rw [HLN2.out]; omega)
          obtain ⟨x0, x1, x2, x3, x4, x5, x6, x7, x8, x9, x10, x11, x12⟩ := hdl.at hx
          obtain ⟨y0, y1, y2, y3, y4, y5, y6, y7, y8, y9, y10, y11, y12⟩ := hdl.at hy
          obtain ⟨z0, z1, z2, z3, z4, z5, z6, z7, z8, z9, z10, z11, z12, z13, z14, z15, z16, z17, z18, z19, z20, z21, z22, z23, z24, z25⟩ : V.frozen? ⟨g, o + p * 13, none⟩ = false ∧ V.frozen? ⟨g, o + p * 13 + 1, none⟩ = false ∧ V.frozen? ⟨g, o + p * 13 + 2, none⟩ = false ∧ V.frozen? ⟨g, o + p * 13 + 3, none⟩ = false ∧ V.frozen? ⟨g, o + p * 13 + 4, none⟩ = false ∧ V.frozen? ⟨g, o + p * 13 + 5, none⟩ = false ∧ V.frozen? ⟨g, o + p * 13 + 6, none⟩ = false ∧ V.frozen? ⟨g, o + p * 13 + 7, none⟩ = false ∧ V.frozen? ⟨g, o + p * 13 + 8, none⟩ = false ∧ V.frozen? ⟨g, o + p * 13 + 9, none⟩ = false ∧ V.frozen? ⟨g, o + p * 13 + 10, none⟩ = false ∧ V.frozen? ⟨g, o + p * 13 + 11, none⟩ = false ∧ V.frozen? ⟨g, o + p * 13 + 12, none⟩ = false ∧ V.frozen? ⟨g, o + q * 13, none⟩ = false ∧ V.frozen? ⟨g, o + q * 13 + 1, none⟩ = false ∧ V.frozen? ⟨g, o + q * 13 + 2, none⟩ = false ∧ V.frozen? ⟨g, o + q * 13 + 3, none⟩ = false ∧ V.frozen? ⟨g, o + q * 13 + 4, none⟩ = false ∧ V.frozen? ⟨g, o + q * 13 + 5, none⟩ = false ∧ V.frozen? ⟨g, o + q * 13 + 6, none⟩ = false ∧ V.frozen? ⟨g, o + q * 13 + 7, none⟩ = false ∧ V.frozen? ⟨g, o + q * 13 + 8, none⟩ = false ∧ V.frozen? ⟨g, o + q * 13 + 9, none⟩ = false ∧ V.frozen? ⟨g, o + q * 13 + 10, none⟩ = false ∧ V.frozen? ⟨g, o + q * 13 + 11, none⟩ = false ∧ V.frozen? ⟨g, o + q * 13 + 12, none⟩ = false := ⟨hdl.fz _, hdl.fz _, hdl.fz _, hdl.fz _, hdl.fz _, hdl.fz _, hdl.fz _, hdl.fz _, hdl.fz _, hdl.fz _, hdl.fz _, hdl.fz _, hdl.fz _, hdl.fz _, hdl.fz _, hdl.fz _, hdl.fz _, hdl.fz _, hdl.fz _, hdl.fz _, hdl.fz _, hdl.fz _, hdl.fz _, hdl.fz _, hdl.fz _, hdl.fz _⟩
          have HD2 := Lib.hid ((hdl.store (k := p) (by rw [HLN2.out]; exact hpN) y).store (k := q) (by rw [List.length_set, HLN2.out]; exact hqN) x)
          have HT2 := Lib.hid (tuK (p := o + q * 13) (tuK (p := o + p * 13) (Turns.refl V (fun j => j = g)) rfl (.int .i64 y.c) (.int .i64 y.n) (.int .i64 y.call) (.int .i64 y.turn) (.int .i64 y.reply) (.int .i64 y.err) (.int .i64 y.tick) (.int .i64 0) (.int .i64 0) (.int .i64 0) (.int .i64 0) (.int .i64 0) (.int .i64 0)) rfl (.int .i64 x.c) (.int .i64 x.n) (.int .i64 x.call) (.int .i64 x.turn) (.int .i64 x.reply) (.int .i64 x.err) (.int .i64 x.tick) (.int .i64 0) (.int .i64 0) (.int .i64 0) (.int .i64 0) (.int .i64 0) (.int .i64 0))
          have HG := Lib.hid (And.intro hg (Nat.le_trans HGE5.out hge))
          have hyq : (L.set p y)[q]? = some y := by
            by_cases e : p = q
            · subst e
              rw [List.getElem?_set_self (by rw [HLN2.out]; exact hpN)]
            · rw [List.getElem?_set_ne e]; exact hy
          obtain ⟨v0, v1, v2, v3, v4, v5, v6, v7, v8, v9, v10, v11, v12⟩ := (hdl.store (k := p) (by rw [HLN2.out]; exact hpN) y).at hyq
          unfold setK at v0 v1 v2 v3 v4 v5 v6 v7 v8 v9 v10 v11 v12
          clear hyq
          clear hdl hg hge hx hy HO6 HBW6 HOD hp hq hpN hqN a255 b255 hne hne' hwp hwq
          go_cut [] (fun wx => Hid (DL wx g o ((L.set p y).set q x) ∧ Turns V wx (fun j => j = g)))
          case first =>
            unfold setK at HD2 HT2
            have HD3 : Hid (DL (((((((((((((((((((((((((((V.setCell ⟨g, o + p * 13, none⟩ (.int .i64 y.c)).setCell ⟨g, o + p * 13 + 1, none⟩ (.int .i64 y.n)).setCell ⟨g, o + p * 13 + 2, none⟩ (.int .i64 y.call)).setCell ⟨g, o + p * 13 + 3, none⟩ (.int .i64 y.turn)).setCell ⟨g, o + p * 13 + 4, none⟩ (.int .i64 y.reply)).setCell ⟨g, o + p * 13 + 5, none⟩ (.int .i64 y.err)).setCell ⟨g, o + p * 13 + 6, none⟩ (.int .i64 y.tick)).setCell ⟨g, o + p * 13 + 7, none⟩ (.int .i64 0)).setCell ⟨g, o + p * 13 + 8, none⟩ (.int .i64 0)).setCell ⟨g, o + p * 13 + 9, none⟩ (.int .i64 0)).setCell ⟨g, o + p * 13 + 10, none⟩ (.int .i64 0)).setCell ⟨g, o + p * 13 + 11, none⟩ (.int .i64 0)).setCell ⟨g, o + p * 13 + 12, none⟩ (.int .i64 0)).setCell ⟨g, o + q * 13, none⟩ (.int .i64 x.c)).setCell ⟨g, o + q * 13 + 1, none⟩ (.int .i64 x.n)).setCell ⟨g, o + q * 13 + 2, none⟩ (.int .i64 x.call)).setCell ⟨g, o + q * 13 + 3, none⟩ (.int .i64 x.turn)).setCell ⟨g, o + q * 13 + 4, none⟩ (.int .i64 x.reply)).setCell ⟨g, o + q * 13 + 5, none⟩ (.int .i64 x.err)).setCell ⟨g, o + q * 13 + 6, none⟩ (.int .i64 x.tick)).setCell ⟨g, o + q * 13 + 7, none⟩ (.int .i64 0)).setCell ⟨g, o + q * 13 + 8, none⟩ (.int .i64 0)).setCell ⟨g, o + q * 13 + 9, none⟩ (.int .i64 0)).setCell ⟨g, o + q * 13 + 10, none⟩ (.int .i64 0)).setCell ⟨g, o + q * 13 + 11, none⟩ (.int .i64 0)).setCell ⟨g, o + q * 13 + 12, none⟩ (.int .i64 0))).drew g o ((L.set p y).set q x)) := HD2.out.drew
            have HT3 : Hid (Turns V (((((((((((((((((((((((((((V.setCell ⟨g, o + p * 13, none⟩ (.int .i64 y.c)).setCell ⟨g, o + p * 13 + 1, none⟩ (.int .i64 y.n)).setCell ⟨g, o + p * 13 + 2, none⟩ (.int .i64 y.call)).setCell ⟨g, o + p * 13 + 3, none⟩ (.int .i64 y.turn)).setCell ⟨g, o + p * 13 + 4, none⟩ (.int .i64 y.reply)).setCell ⟨g, o + p * 13 + 5, none⟩ (.int .i64 y.err)).setCell ⟨g, o + p * 13 + 6, none⟩ (.int .i64 y.tick)).setCell ⟨g, o + p * 13 + 7, none⟩ (.int .i64 0)).setCell ⟨g, o + p * 13 + 8, none⟩ (.int .i64 0)).setCell ⟨g, o + p * 13 + 9, none⟩ (.int .i64 0)).setCell ⟨g, o + p * 13 + 10, none⟩ (.int .i64 0)).setCell ⟨g, o + p * 13 + 11, none⟩ (.int .i64 0)).setCell ⟨g, o + p * 13 + 12, none⟩ (.int .i64 0)).setCell ⟨g, o + q * 13, none⟩ (.int .i64 x.c)).setCell ⟨g, o + q * 13 + 1, none⟩ (.int .i64 x.n)).setCell ⟨g, o + q * 13 + 2, none⟩ (.int .i64 x.call)).setCell ⟨g, o + q * 13 + 3, none⟩ (.int .i64 x.turn)).setCell ⟨g, o + q * 13 + 4, none⟩ (.int .i64 x.reply)).setCell ⟨g, o + q * 13 + 5, none⟩ (.int .i64 x.err)).setCell ⟨g, o + q * 13 + 6, none⟩ (.int .i64 x.tick)).setCell ⟨g, o + q * 13 + 7, none⟩ (.int .i64 0)).setCell ⟨g, o + q * 13 + 8, none⟩ (.int .i64 0)).setCell ⟨g, o + q * 13 + 9, none⟩ (.int .i64 0)).setCell ⟨g, o + q * 13 + 10, none⟩ (.int .i64 0)).setCell ⟨g, o + q * 13 + 11, none⟩ (.int .i64 0)).setCell ⟨g, o + q * 13 + 12, none⟩ (.int .i64 0))).drew (fun j => j = g)) := tu_drew HT2.out
            go_region
            all_goals
              try go_wp2
              go_meet
              first
                | with_reducible exact Lib.hid ⟨HD3.out, HT3.out⟩
                | with_reducible exact Lib.hid ⟨HD2.out, HT2.out⟩
          case rest =>
            obtain ⟨hd2, ht2⟩ := hcut.out
            have hl2 : ((L.set p y).set q x).length = N := by rw [List.length_set, List.length_set, HLN2.out]
            obtain ⟨M, hM⟩ : ∃ M, (L.set p y).set q x = M := ⟨_, rfl⟩
            rw [hM] at hd2 hl2
            have HOM : Hid (OL w.heap.size wc (some ⟨g, o, none⟩) M) := Lib.hid (fun _ => ⟨g, o, rfl, hd2, Nat.lt_of_lt_of_le HG.out.1 ht2.size, HG.out.2⟩)
            have HBC := Lib.hid (ht2.below HBD.out HBD.out.size (fun j hj e => by have := HG.out.2; omega))
            have HML := Lib.hid hl2
            have HBZ := Lib.hid (Below.refl wc.heap.size wc)
            clear hcut hd2 ht2 hl2 hM HD2 HT2 HBD HFF HLN2 x0 x1 x2 x3 x4 x5 x6 x7 x8 x9 x10 x11 x12 y0 y1 y2 y3 y4 y5 y6 y7 y8 y9 y10 y11 y12 v0 v1 v2 v3 v4 v5 v6 v7 v8 v9 v10 v11 v12 z0 z1 z2 z3 z4 z5 z6 z7 z8 z9 z10 z11 z12 z13 z14 z15 z16 z17 z18 z19 z20 z21 z22 z23 z24 z25
            go_wp2
            go_loopw [14, 15, 16] (fun s14 s15 s16 wr => ∃ a : Nat, a ≤ N ∧ s14 = .bool (wO M a) ∧ s15 = .int .i64 a ∧ Hid (Below wc.heap.size wc wr)) (fun _ s15 _ _ => N - (intOf s15).toNat)
            case atStart => exact ⟨0, by omega, rfl, rfl, HBZ⟩
            case round =>
              obtain ⟨a, ha, rfl, rfl, hb8⟩ := hrel
              by_cases hlt : a < N
              · have haz : (a : Int) < (N : Int) := by omega
                have haw : IntKind.i64.wrap ((a : Int) + 1) = (a : Int) + 1 := by rw [IntKind.wrap_i64]; omega
                obtain ⟨x, hx⟩ : ∃ x, M[a]? = some x := ⟨M[a]'(by rw [HML.out]; exact hlt), List.getElem?_eq_getElem _⟩
                have HX := Lib.hid hx
                have HSUC := Lib.hid (show wO M (a + 1) = (wO M a && wI M x a) from by
                  show (wO M a && (match M[a]? with | some x => wI M x a | none => true)) = _
                  rw [hx])
                obtain ⟨T, hT⟩ : ∃ T, wO M a = T := ⟨_, rfl⟩
                rw [hT] at HSUC ⊢
                clear hx hT
                go_wp2
                go_loopw [14, 16] (fun s14 s16 wr => ∃ b : Nat, b ≤ a ∧ s14 = .bool (T && wI M x b) ∧ s16 = .int .i64 b ∧ Hid (Below wc.heap.size wc wr)) (fun _ s16 _ => a - (intOf s16).toNat)
                case atStart => exact ⟨0, by omega, by rw [show wI M x 0 = true from rfl, Bool.and_true], rfl, hb8⟩
                case round =>
                  obtain ⟨b, hbb, rfl, rfl, hb9⟩ := hrel
                  by_cases hlt2 : b < a
                  · have hbz : (b : Int) < (a : Int) := by omega
                    have hbn : (b : Int) < (N : Int) := by omega
                    have ha0 : (0 : Int) ≤ (a : Int) := by omega
                    have hb0 : (0 : Int) ≤ (b : Int) := by omega
                    have hbw : IntKind.i64.wrap ((b : Int) + 1) = (b : Int) + 1 := by rw [IntKind.wrap_i64]; omega
                    obtain ⟨y, hy⟩ : ∃ y, M[b]? = some y := ⟨M[b]'(by rw [HML.out]; omega), List.getElem?_eq_getElem _⟩
                    obtain ⟨g1, o1, e1, hgs, x0, x1, x2, x3, x4, x5, x6, x7, x8, x9, x10, x11, x12⟩ := ls_13 ((HOM.out.call hb9.out).ls) HX.out
                    injection e1 with e1
                    injection e1 with e1 e2
                    subst e1 e2
                    obtain ⟨g1, o1, e1, _, y0, y1, y2, y3, y4, y5, y6, y7, y8, y9, y10, y11, y12⟩ := ls_13 ((HOM.out.call hb9.out).ls) hy
                    injection e1 with e1
                    injection e1 with e1 e2
                    subst e1 e2
                    have hS : ∀ X, Below wr.heap.size wr X → X.cell? ⟨g, o + a * 13, none⟩ = some (.int .i64 x.c) ∧ X.cell? ⟨g, o + a * 13 + 1, none⟩ = some (.int .i64 x.n) ∧ X.cell? ⟨g, o + a * 13 + 2, none⟩ = some (.int .i64 x.call) ∧ X.cell? ⟨g, o + a * 13 + 3, none⟩ = some (.int .i64 x.turn) ∧ X.cell? ⟨g, o + a * 13 + 4, none⟩ = some (.int .i64 x.reply) ∧ X.cell? ⟨g, o + a * 13 + 5, none⟩ = some (.int .i64 x.err) ∧ X.cell? ⟨g, o + a * 13 + 6, none⟩ = some (.int .i64 x.tick) ∧ X.cell? ⟨g, o + a * 13 + 7, none⟩ = some (.int .i64 0) ∧ X.cell? ⟨g, o + a * 13 + 8, none⟩ = some (.int .i64 0) ∧ X.cell? ⟨g, o + a * 13 + 9, none⟩ = some (.int .i64 0) ∧ X.cell? ⟨g, o + a * 13 + 10, none⟩ = some (.int .i64 0) ∧ X.cell? ⟨g, o + a * 13 + 11, none⟩ = some (.int .i64 0) ∧ X.cell? ⟨g, o + a * 13 + 12, none⟩ = some (.int .i64 0) ∧ X.cell? ⟨g, o + b * 13, none⟩ = some (.int .i64 y.c) ∧ X.cell? ⟨g, o + b * 13 + 1, none⟩ = some (.int .i64 y.n) ∧ X.cell? ⟨g, o + b * 13 + 2, none⟩ = some (.int .i64 y.call) ∧ X.cell? ⟨g, o + b * 13 + 3, none⟩ = some (.int .i64 y.turn) ∧ X.cell? ⟨g, o + b * 13 + 4, none⟩ = some (.int .i64 y.reply) ∧ X.cell? ⟨g, o + b * 13 + 5, none⟩ = some (.int .i64 y.err) ∧ X.cell? ⟨g, o + b * 13 + 6, none⟩ = some (.int .i64 y.tick) ∧ X.cell? ⟨g, o + b * 13 + 7, none⟩ = some (.int .i64 0) ∧ X.cell? ⟨g, o + b * 13 + 8, none⟩ = some (.int .i64 0) ∧ X.cell? ⟨g, o + b * 13 + 9, none⟩ = some (.int .i64 0) ∧ X.cell? ⟨g, o + b * 13 + 10, none⟩ = some (.int .i64 0) ∧ X.cell? ⟨g, o + b * 13 + 11, none⟩ = some (.int .i64 0) ∧ X.cell? ⟨g, o + b * 13 + 12, none⟩ = some (.int .i64 0) := fun X hX =>
                      ⟨(hX.cell (p := ⟨g, _, none⟩) hgs).trans x0, (hX.cell (p := ⟨g, _, none⟩) hgs).trans x1, (hX.cell (p := ⟨g, _, none⟩) hgs).trans x2, (hX.cell (p := ⟨g, _, none⟩) hgs).trans x3, (hX.cell (p := ⟨g, _, none⟩) hgs).trans x4, (hX.cell (p := ⟨g, _, none⟩) hgs).trans x5, (hX.cell (p := ⟨g, _, none⟩) hgs).trans x6, (hX.cell (p := ⟨g, _, none⟩) hgs).trans x7, (hX.cell (p := ⟨g, _, none⟩) hgs).trans x8, (hX.cell (p := ⟨g, _, none⟩) hgs).trans x9, (hX.cell (p := ⟨g, _, none⟩) hgs).trans x10, (hX.cell (p := ⟨g, _, none⟩) hgs).trans x11, (hX.cell (p := ⟨g, _, none⟩) hgs).trans x12, (hX.cell (p := ⟨g, _, none⟩) hgs).trans y0, (hX.cell (p := ⟨g, _, none⟩) hgs).trans y1, (hX.cell (p := ⟨g, _, none⟩) hgs).trans y2, (hX.cell (p := ⟨g, _, none⟩) hgs).trans y3, (hX.cell (p := ⟨g, _, none⟩) hgs).trans y4, (hX.cell (p := ⟨g, _, none⟩) hgs).trans y5, (hX.cell (p := ⟨g, _, none⟩) hgs).trans y6, (hX.cell (p := ⟨g, _, none⟩) hgs).trans y7, (hX.cell (p := ⟨g, _, none⟩) hgs).trans y8, (hX.cell (p := ⟨g, _, none⟩) hgs).trans y9, (hX.cell (p := ⟨g, _, none⟩) hgs).trans y10, (hX.cell (p := ⟨g, _, none⟩) hgs).trans y11, (hX.cell (p := ⟨g, _, none⟩) hgs).trans y12⟩
                    have HS := Lib.hid hS
                    have HB : Hid (Below wr.heap.size wr wr.drew) := (Below.refl _ wr).drew
                    obtain ⟨r, hr⟩ : ∃ r, decide ((0 : Int) ≤ x.reply) = r := ⟨_, rfl⟩
                    obtain ⟨d, hd⟩ : ∃ d, decide (x.reply < y.call) = d := ⟨_, rfl⟩
                    obtain ⟨U, hU⟩ : ∃ U, (T && wI M x b) = U := ⟨_, rfl⟩
                    have HNEW := Lib.hid (show (T && wI M x (b + 1)) = (U && !(r && d)) from by
                      have he : ahd x y = (r && d) := by unfold ahd; rw [hd, hr]
                      show (T && (wI M x b && !(match M[b]? with | some y => ahd x y | none => false))) = _
                      rw [hy]
                      dsimp only
                      rw [he, ← Bool.and_assoc, hU])
                    rw [hU]
                    clear hS hy hgs hU
                    go_upto_region 32 with fail
                    cases U with
                    | false =>
                      refine wp_region_noPanic ?_
                      refine wp_region_held_drew (S := (fun X => X.cell? ⟨g, o + a * 13, none⟩ = some (.int .i64 x.c) ∧ X.cell? ⟨g, o + a * 13 + 1, none⟩ = some (.int .i64 x.n) ∧ X.cell? ⟨g, o + a * 13 + 2, none⟩ = some (.int .i64 x.call) ∧ X.cell? ⟨g, o + a * 13 + 3, none⟩ = some (.int .i64 x.turn) ∧ X.cell? ⟨g, o + a * 13 + 4, none⟩ = some (.int .i64 x.reply) ∧ X.cell? ⟨g, o + a * 13 + 5, none⟩ = some (.int .i64 x.err) ∧ X.cell? ⟨g, o + a * 13 + 6, none⟩ = some (.int .i64 x.tick) ∧ X.cell? ⟨g, o + a * 13 + 7, none⟩ = some (.int .i64 0) ∧ X.cell? ⟨g, o + a * 13 + 8, none⟩ = some (.int .i64 0) ∧ X.cell? ⟨g, o + a * 13 + 9, none⟩ = some (.int .i64 0) ∧ X.cell? ⟨g, o + a * 13 + 10, none⟩ = some (.int .i64 0) ∧ X.cell? ⟨g, o + a * 13 + 11, none⟩ = some (.int .i64 0) ∧ X.cell? ⟨g, o + a * 13 + 12, none⟩ = some (.int .i64 0) ∧ X.cell? ⟨g, o + b * 13, none⟩ = some (.int .i64 y.c) ∧ X.cell? ⟨g, o + b * 13 + 1, none⟩ = some (.int .i64 y.n) ∧ X.cell? ⟨g, o + b * 13 + 2, none⟩ = some (.int .i64 y.call) ∧ X.cell? ⟨g, o + b * 13 + 3, none⟩ = some (.int .i64 y.turn) ∧ X.cell? ⟨g, o + b * 13 + 4, none⟩ = some (.int .i64 y.reply) ∧ X.cell? ⟨g, o + b * 13 + 5, none⟩ = some (.int .i64 y.err) ∧ X.cell? ⟨g, o + b * 13 + 6, none⟩ = some (.int .i64 y.tick) ∧ X.cell? ⟨g, o + b * 13 + 7, none⟩ = some (.int .i64 0) ∧ X.cell? ⟨g, o + b * 13 + 8, none⟩ = some (.int .i64 0) ∧ X.cell? ⟨g, o + b * 13 + 9, none⟩ = some (.int .i64 0) ∧ X.cell? ⟨g, o + b * 13 + 10, none⟩ = some (.int .i64 0) ∧ X.cell? ⟨g, o + b * 13 + 11, none⟩ = some (.int .i64 0) ∧ X.cell? ⟨g, o + b * 13 + 12, none⟩ = some (.int .i64 0))) (by kernel_rfl) ?_ (fun hHeld => ?_)
                      · exact HS.out _ HB.out
                      refine take_at 0 141 _ (v := ?v410) rfl rfl (by kernel_rfl) (by kernel_rfl) (by kernel_rfl) (fun _ _ _ h => h) (Or.inl ⟨by rfl, ?hy410⟩) (by assumption) ?rest410
                      case hy410 =>
                        intro wX hSw
                        try dsimp only at hSw
                        go_simp
                        first
                        | done
                        | (with_reducible rfl)
                      try simp only [Act.put, List.setIfInBounds_toArray, List.set_cons_zero, List.set_cons_succ]
                      refine take_at 1 142 _ (v := ?v411) rfl rfl (by kernel_rfl) (by kernel_rfl) (by kernel_rfl) (fun _ _ _ h => h) (Or.inl ⟨by rfl, ?hy411⟩) (by assumption) ?rest411
                      case hy411 =>
                        intro wX hSw
                        try dsimp only at hSw
                        go_simp
                        first
                        | done
                        | (with_reducible rfl)
                      try simp only [Act.put, List.setIfInBounds_toArray, List.set_cons_zero, List.set_cons_succ]
                      refine take_at 2 143 _ (v := undef) rfl rfl (by kernel_rfl) (by kernel_rfl) (by kernel_rfl) (fun _ _ _ h => h) (Or.inr ⟨by rfl, rfl⟩) (by assumption) ?_
                      try simp only [Act.put, List.setIfInBounds_toArray, List.set_cons_zero, List.set_cons_succ]
                      refine take_at 3 144 _ (v := undef) rfl rfl (by kernel_rfl) (by kernel_rfl) (by kernel_rfl) (fun _ _ _ h => h) (Or.inr ⟨by rfl, rfl⟩) (by assumption) ?_
                      try simp only [Act.put, List.setIfInBounds_toArray, List.set_cons_zero, List.set_cons_succ]
                      refine take_at 4 145 _ (v := undef) rfl rfl (by kernel_rfl) (by kernel_rfl) (by kernel_rfl) (fun _ _ _ h => h) (Or.inr ⟨by rfl, rfl⟩) (by assumption) ?_
                      try simp only [Act.put, List.setIfInBounds_toArray, List.set_cons_zero, List.set_cons_succ]
                      refine take_at 5 146 _ (v := undef) rfl rfl (by kernel_rfl) (by kernel_rfl) (by kernel_rfl) (fun _ _ _ h => h) (Or.inr ⟨by rfl, rfl⟩) (by assumption) ?_
                      try simp only [Act.put, List.setIfInBounds_toArray, List.set_cons_zero, List.set_cons_succ]
                      refine take_at 6 147 _ (v := undef) rfl rfl (by kernel_rfl) (by kernel_rfl) (by kernel_rfl) (fun _ _ _ h => h) (Or.inr ⟨by rfl, rfl⟩) (by assumption) ?_
                      try simp only [Act.put, List.setIfInBounds_toArray, List.set_cons_zero, List.set_cons_succ]
                      refine take_at 7 148 _ (v := undef) rfl rfl (by kernel_rfl) (by kernel_rfl) (by kernel_rfl) (fun _ _ _ h => h) (Or.inr ⟨by rfl, rfl⟩) (by assumption) ?_
                      try simp only [Act.put, List.setIfInBounds_toArray, List.set_cons_zero, List.set_cons_succ]
                      refine take_at 8 149 _ (v := undef) rfl rfl (by kernel_rfl) (by kernel_rfl) (by kernel_rfl) (fun _ _ _ h => h) (Or.inr ⟨by rfl, rfl⟩) (by assumption) ?_
                      try simp only [Act.put, List.setIfInBounds_toArray, List.set_cons_zero, List.set_cons_succ]
                      refine take_at 9 150 _ (v := undef) rfl rfl (by kernel_rfl) (by kernel_rfl) (by kernel_rfl) (fun _ _ _ h => h) (Or.inr ⟨by rfl, rfl⟩) (by assumption) ?_
                      try simp only [Act.put, List.setIfInBounds_toArray, List.set_cons_zero, List.set_cons_succ]
                      refine take_at 10 151 _ (v := undef) rfl rfl (by kernel_rfl) (by kernel_rfl) (by kernel_rfl) (fun _ _ _ h => h) (Or.inr ⟨by rfl, rfl⟩) (by assumption) ?_
                      try simp only [Act.put, List.setIfInBounds_toArray, List.set_cons_zero, List.set_cons_succ]
                      refine take_at 11 152 _ (v := undef) rfl rfl (by kernel_rfl) (by kernel_rfl) (by kernel_rfl) (fun _ _ _ h => h) (Or.inr ⟨by rfl, rfl⟩) (by assumption) ?_
                      try simp only [Act.put, List.setIfInBounds_toArray, List.set_cons_zero, List.set_cons_succ]
                      refine take_at 12 153 _ (v := undef) rfl rfl (by kernel_rfl) (by kernel_rfl) (by kernel_rfl) (fun _ _ _ h => h) (Or.inr ⟨by rfl, rfl⟩) (by assumption) ?_
                      try simp only [Act.put, List.setIfInBounds_toArray, List.set_cons_zero, List.set_cons_succ]
                      refine take_at 13 154 _ (v := undef) rfl rfl (by kernel_rfl) (by kernel_rfl) (by kernel_rfl) (fun _ _ _ h => h) (Or.inr ⟨by rfl, rfl⟩) (by assumption) ?_
                      try simp only [Act.put, List.setIfInBounds_toArray, List.set_cons_zero, List.set_cons_succ]
                      refine take_at 14 155 _ (v := undef) rfl rfl (by kernel_rfl) (by kernel_rfl) (by kernel_rfl) (fun _ _ _ h => h) (Or.inr ⟨by rfl, rfl⟩) (by assumption) ?_
                      try simp only [Act.put, List.setIfInBounds_toArray, List.set_cons_zero, List.set_cons_succ]
                      refine take_at 15 156 _ (v := undef) rfl rfl (by kernel_rfl) (by kernel_rfl) (by kernel_rfl) (fun _ _ _ h => h) (Or.inr ⟨by rfl, rfl⟩) (by assumption) ?_
                      try simp only [Act.put, List.setIfInBounds_toArray, List.set_cons_zero, List.set_cons_succ]
                      refine take_at 16 157 _ (v := undef) rfl rfl (by kernel_rfl) (by kernel_rfl) (by kernel_rfl) (fun _ _ _ h => h) (Or.inr ⟨by rfl, rfl⟩) (by assumption) ?_
                      try simp only [Act.put, List.setIfInBounds_toArray, List.set_cons_zero, List.set_cons_succ]
                      refine take_at 17 158 _ (v := undef) rfl rfl (by kernel_rfl) (by kernel_rfl) (by kernel_rfl) (fun _ _ _ h => h) (Or.inr ⟨by rfl, rfl⟩) (by assumption) ?_
                      try simp only [Act.put, List.setIfInBounds_toArray, List.set_cons_zero, List.set_cons_succ]
                      refine take_at 18 159 _ (v := undef) rfl rfl (by kernel_rfl) (by kernel_rfl) (by kernel_rfl) (fun _ _ _ h => h) (Or.inr ⟨by rfl, rfl⟩) (by assumption) ?_
                      try simp only [Act.put, List.setIfInBounds_toArray, List.set_cons_zero, List.set_cons_succ]
                      refine take_at 19 160 _ (v := undef) rfl rfl (by kernel_rfl) (by kernel_rfl) (by kernel_rfl) (fun _ _ _ h => h) (Or.inr ⟨by rfl, rfl⟩) (by assumption) ?_
                      try simp only [Act.put, List.setIfInBounds_toArray, List.set_cons_zero, List.set_cons_succ]
                      refine take_at 20 161 _ (v := undef) rfl rfl (by kernel_rfl) (by kernel_rfl) (by kernel_rfl) (fun _ _ _ h => h) (Or.inr ⟨by rfl, rfl⟩) (by assumption) ?_
                      try simp only [Act.put, List.setIfInBounds_toArray, List.set_cons_zero, List.set_cons_succ]
                      refine take_at 21 162 _ (v := undef) rfl rfl (by kernel_rfl) (by kernel_rfl) (by kernel_rfl) (fun _ _ _ h => h) (Or.inr ⟨by rfl, rfl⟩) (by assumption) ?_
                      try simp only [Act.put, List.setIfInBounds_toArray, List.set_cons_zero, List.set_cons_succ]
                      refine take_at 22 163 _ (v := ?v4122) rfl rfl (by kernel_rfl) (by kernel_rfl) (by kernel_rfl) (fun _ _ _ h => h) (Or.inl ⟨by rfl, ?hy4122⟩) (by assumption) ?rest4122
                      case hy4122 =>
                        intro wX hSw
                        try dsimp only at hSw
                        go_simp
                        first
                        | done
                        | (with_reducible rfl)
                      try simp only [Act.put, List.setIfInBounds_toArray, List.set_cons_zero, List.set_cons_succ]
                      refine take_at 23 14 _ (v := ?v4123) rfl rfl (by kernel_rfl) (by kernel_rfl) (by kernel_rfl) (fun _ _ _ h => h) (Or.inl ⟨by rfl, ?hy4123⟩) (by assumption) ?rest4123
                      case hy4123 =>
                        intro wX hSw
                        try dsimp only at hSw
                        go_simp
                        first
                        | done
                        | (with_reducible rfl)
                      try simp only [Act.put, List.setIfInBounds_toArray, List.set_cons_zero, List.set_cons_succ]
                      refine wpAnyH_done (by kernel_rfl) ?_ _
                      refine NoPanic.normal ?_
                      go_wp2
                      go_roundw
                      case rel => exact ⟨b + 1, by omega, by rw [HNEW.out]; rfl, by go_num, Lib.hid (hb9.out.trans (HB.out.mono hb9.out.size))⟩
                      case measure => simp [intOf]; omega

                    | true =>
                      cases r with
                      | false =>
                        have hl3 : ¬ 0 ≤ x.reply := of_decide_eq_false hr
                        have hl1 : x.reply < 0 := by omega
                        refine wp_region_noPanic ?_
                        refine wp_region_held_drew (S := (fun X => X.cell? ⟨g, o + a * 13, none⟩ = some (.int .i64 x.c) ∧ X.cell? ⟨g, o + a * 13 + 1, none⟩ = some (.int .i64 x.n) ∧ X.cell? ⟨g, o + a * 13 + 2, none⟩ = some (.int .i64 x.call) ∧ X.cell? ⟨g, o + a * 13 + 3, none⟩ = some (.int .i64 x.turn) ∧ X.cell? ⟨g, o + a * 13 + 4, none⟩ = some (.int .i64 x.reply) ∧ X.cell? ⟨g, o + a * 13 + 5, none⟩ = some (.int .i64 x.err) ∧ X.cell? ⟨g, o + a * 13 + 6, none⟩ = some (.int .i64 x.tick) ∧ X.cell? ⟨g, o + a * 13 + 7, none⟩ = some (.int .i64 0) ∧ X.cell? ⟨g, o + a * 13 + 8, none⟩ = some (.int .i64 0) ∧ X.cell? ⟨g, o + a * 13 + 9, none⟩ = some (.int .i64 0) ∧ X.cell? ⟨g, o + a * 13 + 10, none⟩ = some (.int .i64 0) ∧ X.cell? ⟨g, o + a * 13 + 11, none⟩ = some (.int .i64 0) ∧ X.cell? ⟨g, o + a * 13 + 12, none⟩ = some (.int .i64 0) ∧ X.cell? ⟨g, o + b * 13, none⟩ = some (.int .i64 y.c) ∧ X.cell? ⟨g, o + b * 13 + 1, none⟩ = some (.int .i64 y.n) ∧ X.cell? ⟨g, o + b * 13 + 2, none⟩ = some (.int .i64 y.call) ∧ X.cell? ⟨g, o + b * 13 + 3, none⟩ = some (.int .i64 y.turn) ∧ X.cell? ⟨g, o + b * 13 + 4, none⟩ = some (.int .i64 y.reply) ∧ X.cell? ⟨g, o + b * 13 + 5, none⟩ = some (.int .i64 y.err) ∧ X.cell? ⟨g, o + b * 13 + 6, none⟩ = some (.int .i64 y.tick) ∧ X.cell? ⟨g, o + b * 13 + 7, none⟩ = some (.int .i64 0) ∧ X.cell? ⟨g, o + b * 13 + 8, none⟩ = some (.int .i64 0) ∧ X.cell? ⟨g, o + b * 13 + 9, none⟩ = some (.int .i64 0) ∧ X.cell? ⟨g, o + b * 13 + 10, none⟩ = some (.int .i64 0) ∧ X.cell? ⟨g, o + b * 13 + 11, none⟩ = some (.int .i64 0) ∧ X.cell? ⟨g, o + b * 13 + 12, none⟩ = some (.int .i64 0))) (by kernel_rfl) ?_ (fun hHeld => ?_)
                        · exact HS.out _ HB.out
                        refine take_at 0 141 _ (v := ?v420) rfl rfl (by kernel_rfl) (by kernel_rfl) (by kernel_rfl) (fun _ _ _ h => h) (Or.inl ⟨by rfl, ?hy420⟩) (by assumption) ?rest420
                        case hy420 =>
                          intro wX hSw
                          try dsimp only at hSw
                          go_simp
                          first
                          | done
                          | (with_reducible rfl)
                        try simp only [Act.put, List.setIfInBounds_toArray, List.set_cons_zero, List.set_cons_succ]
                        refine take_at 1 142 _ (v := ?v421) rfl rfl (by kernel_rfl) (by kernel_rfl) (by kernel_rfl) (fun _ _ _ h => h) (Or.inl ⟨by rfl, ?hy421⟩) (by assumption) ?rest421
                        case hy421 =>
                          intro wX hSw
                          try dsimp only at hSw
                          go_simp
                          first
                          | done
                          | (with_reducible rfl)
                        try simp only [Act.put, List.setIfInBounds_toArray, List.set_cons_zero, List.set_cons_succ]
                        refine take_at 2 143 _ (v := ?v422) rfl rfl (by kernel_rfl) (by kernel_rfl) (by kernel_rfl) (fun _ _ _ h => h) (Or.inl ⟨by rfl, ?hy422⟩) (by assumption) ?rest422
                        case hy422 =>
                          intro wX hSw
                          try dsimp only at hSw
                          go_simp
                          first
                          | done
                          | (with_reducible rfl)
                        try simp only [Act.put, List.setIfInBounds_toArray, List.set_cons_zero, List.set_cons_succ]
                        refine take_at 3 144 _ (v := ?v423) rfl rfl (by kernel_rfl) (by kernel_rfl) (by kernel_rfl) (fun _ _ _ h => h) (Or.inl ⟨by rfl, ?hy423⟩) (by assumption) ?rest423
                        case hy423 =>
                          intro wX hSw
                          try dsimp only at hSw
                          go_simp
                          first
                          | done
                          | (with_reducible rfl)
                        try simp only [Act.put, List.setIfInBounds_toArray, List.set_cons_zero, List.set_cons_succ]
                        refine take_at 4 145 _ (v := ?v424) rfl rfl (by kernel_rfl) (by kernel_rfl) (by kernel_rfl) (fun _ _ _ h => h) (Or.inl ⟨by rfl, ?hy424⟩) (by assumption) ?rest424
                        case hy424 =>
                          intro wX hSw
                          try dsimp only at hSw
                          go_simp
                          first
                          | done
                          | (with_reducible rfl)
                        try simp only [Act.put, List.setIfInBounds_toArray, List.set_cons_zero, List.set_cons_succ]
                        refine take_at 5 146 _ (v := ?v425) rfl rfl (by kernel_rfl) (by kernel_rfl) (by kernel_rfl) (fun _ _ _ h => h) (Or.inl ⟨by rfl, ?hy425⟩) (by assumption) ?rest425
                        case hy425 =>
                          intro wX hSw
                          try dsimp only at hSw
                          go_simp
                          first
                          | done
                          | (with_reducible rfl)
                        try simp only [Act.put, List.setIfInBounds_toArray, List.set_cons_zero, List.set_cons_succ]
                        refine take_at 6 147 _ (v := ?v426) rfl rfl (by kernel_rfl) (by kernel_rfl) (by kernel_rfl) (fun _ _ _ h => h) (Or.inl ⟨by rfl, ?hy426⟩) (by assumption) ?rest426
                        case hy426 =>
                          intro wX hSw
                          try dsimp only at hSw
                          go_simp
                          first
                          | done
                          | (with_reducible rfl)
                        try simp only [Act.put, List.setIfInBounds_toArray, List.set_cons_zero, List.set_cons_succ]
                        refine take_at 7 148 _ (v := ?v427) rfl rfl (by kernel_rfl) (by kernel_rfl) (by kernel_rfl) (fun _ _ _ h => h) (Or.inl ⟨by rfl, ?hy427⟩) (by assumption) ?rest427
                        case hy427 =>
                          intro wX hSw
                          try dsimp only at hSw
                          go_simp
                          first
                          | done
                          | (with_reducible rfl)
                        try simp only [Act.put, List.setIfInBounds_toArray, List.set_cons_zero, List.set_cons_succ]
                        refine take_at 8 149 _ (v := ?v428) rfl rfl (by kernel_rfl) (by kernel_rfl) (by kernel_rfl) (fun _ _ _ h => h) (Or.inl ⟨by rfl, ?hy428⟩) (by assumption) ?rest428
                        case hy428 =>
                          intro wX hSw
                          try dsimp only at hSw
                          go_simp
                          first
                          | done
                          | (with_reducible rfl)
                        try simp only [Act.put, List.setIfInBounds_toArray, List.set_cons_zero, List.set_cons_succ]
                        refine take_at 9 150 _ (v := undef) rfl rfl (by kernel_rfl) (by kernel_rfl) (by kernel_rfl) (fun _ _ _ h => h) (Or.inr ⟨by rfl, rfl⟩) (by assumption) ?_
                        try simp only [Act.put, List.setIfInBounds_toArray, List.set_cons_zero, List.set_cons_succ]
                        refine take_at 10 151 _ (v := undef) rfl rfl (by kernel_rfl) (by kernel_rfl) (by kernel_rfl) (fun _ _ _ h => h) (Or.inr ⟨by rfl, rfl⟩) (by assumption) ?_
                        try simp only [Act.put, List.setIfInBounds_toArray, List.set_cons_zero, List.set_cons_succ]
                        refine take_at 11 152 _ (v := undef) rfl rfl (by kernel_rfl) (by kernel_rfl) (by kernel_rfl) (fun _ _ _ h => h) (Or.inr ⟨by rfl, rfl⟩) (by assumption) ?_
                        try simp only [Act.put, List.setIfInBounds_toArray, List.set_cons_zero, List.set_cons_succ]
                        refine take_at 12 153 _ (v := undef) rfl rfl (by kernel_rfl) (by kernel_rfl) (by kernel_rfl) (fun _ _ _ h => h) (Or.inr ⟨by rfl, rfl⟩) (by assumption) ?_
                        try simp only [Act.put, List.setIfInBounds_toArray, List.set_cons_zero, List.set_cons_succ]
                        refine take_at 13 154 _ (v := undef) rfl rfl (by kernel_rfl) (by kernel_rfl) (by kernel_rfl) (fun _ _ _ h => h) (Or.inr ⟨by rfl, rfl⟩) (by assumption) ?_
                        try simp only [Act.put, List.setIfInBounds_toArray, List.set_cons_zero, List.set_cons_succ]
                        refine take_at 14 155 _ (v := undef) rfl rfl (by kernel_rfl) (by kernel_rfl) (by kernel_rfl) (fun _ _ _ h => h) (Or.inr ⟨by rfl, rfl⟩) (by assumption) ?_
                        try simp only [Act.put, List.setIfInBounds_toArray, List.set_cons_zero, List.set_cons_succ]
                        refine take_at 15 156 _ (v := undef) rfl rfl (by kernel_rfl) (by kernel_rfl) (by kernel_rfl) (fun _ _ _ h => h) (Or.inr ⟨by rfl, rfl⟩) (by assumption) ?_
                        try simp only [Act.put, List.setIfInBounds_toArray, List.set_cons_zero, List.set_cons_succ]
                        refine take_at 16 157 _ (v := undef) rfl rfl (by kernel_rfl) (by kernel_rfl) (by kernel_rfl) (fun _ _ _ h => h) (Or.inr ⟨by rfl, rfl⟩) (by assumption) ?_
                        try simp only [Act.put, List.setIfInBounds_toArray, List.set_cons_zero, List.set_cons_succ]
                        refine take_at 17 158 _ (v := undef) rfl rfl (by kernel_rfl) (by kernel_rfl) (by kernel_rfl) (fun _ _ _ h => h) (Or.inr ⟨by rfl, rfl⟩) (by assumption) ?_
                        try simp only [Act.put, List.setIfInBounds_toArray, List.set_cons_zero, List.set_cons_succ]
                        refine take_at 18 159 _ (v := undef) rfl rfl (by kernel_rfl) (by kernel_rfl) (by kernel_rfl) (fun _ _ _ h => h) (Or.inr ⟨by rfl, rfl⟩) (by assumption) ?_
                        try simp only [Act.put, List.setIfInBounds_toArray, List.set_cons_zero, List.set_cons_succ]
                        refine take_at 19 160 _ (v := undef) rfl rfl (by kernel_rfl) (by kernel_rfl) (by kernel_rfl) (fun _ _ _ h => h) (Or.inr ⟨by rfl, rfl⟩) (by assumption) ?_
                        try simp only [Act.put, List.setIfInBounds_toArray, List.set_cons_zero, List.set_cons_succ]
                        refine take_at 20 161 _ (v := ?v4220) rfl rfl (by kernel_rfl) (by kernel_rfl) (by kernel_rfl) (fun _ _ _ h => h) (Or.inl ⟨by rfl, ?hy4220⟩) (by assumption) ?rest4220
                        case hy4220 =>
                          intro wX hSw
                          try dsimp only at hSw
                          go_simp
                          first
                          | done
                          | (with_reducible rfl)
                        try simp only [Act.put, List.setIfInBounds_toArray, List.set_cons_zero, List.set_cons_succ]
                        refine take_at 21 162 _ (v := ?v4221) rfl rfl (by kernel_rfl) (by kernel_rfl) (by kernel_rfl) (fun _ _ _ h => h) (Or.inl ⟨by rfl, ?hy4221⟩) (by assumption) ?rest4221
                        case hy4221 =>
                          intro wX hSw
                          try dsimp only at hSw
                          go_simp
                          first
                          | done
                          | (with_reducible rfl)
                        try simp only [Act.put, List.setIfInBounds_toArray, List.set_cons_zero, List.set_cons_succ]
                        refine take_at 22 163 _ (v := ?v4222) rfl rfl (by kernel_rfl) (by kernel_rfl) (by kernel_rfl) (fun _ _ _ h => h) (Or.inl ⟨by rfl, ?hy4222⟩) (by assumption) ?rest4222
                        case hy4222 =>
                          intro wX hSw
                          try dsimp only at hSw
                          go_simp
                          first
                          | done
                          | (with_reducible rfl)
                        try simp only [Act.put, List.setIfInBounds_toArray, List.set_cons_zero, List.set_cons_succ]
                        refine take_at 23 14 _ (v := ?v4223) rfl rfl (by kernel_rfl) (by kernel_rfl) (by kernel_rfl) (fun _ _ _ h => h) (Or.inl ⟨by rfl, ?hy4223⟩) (by assumption) ?rest4223
                        case hy4223 =>
                          intro wX hSw
                          try dsimp only at hSw
                          go_simp
                          first
                          | done
                          | (with_reducible rfl)
                        try simp only [Act.put, List.setIfInBounds_toArray, List.set_cons_zero, List.set_cons_succ]
                        refine wpAnyH_done (by kernel_rfl) ?_ _
                        refine NoPanic.normal ?_
                        go_wp2
                        go_roundw
                        case rel => exact ⟨b + 1, by omega, by rw [HNEW.out]; rfl, by go_num, Lib.hid (hb9.out.trans (HB.out.mono hb9.out.size))⟩
                        case measure => simp [intOf]; omega

                      | true =>
                        refine wp_region_noPanic ?_
                        refine wp_region_held_drew (S := (fun X => X.cell? ⟨g, o + a * 13, none⟩ = some (.int .i64 x.c) ∧ X.cell? ⟨g, o + a * 13 + 1, none⟩ = some (.int .i64 x.n) ∧ X.cell? ⟨g, o + a * 13 + 2, none⟩ = some (.int .i64 x.call) ∧ X.cell? ⟨g, o + a * 13 + 3, none⟩ = some (.int .i64 x.turn) ∧ X.cell? ⟨g, o + a * 13 + 4, none⟩ = some (.int .i64 x.reply) ∧ X.cell? ⟨g, o + a * 13 + 5, none⟩ = some (.int .i64 x.err) ∧ X.cell? ⟨g, o + a * 13 + 6, none⟩ = some (.int .i64 x.tick) ∧ X.cell? ⟨g, o + a * 13 + 7, none⟩ = some (.int .i64 0) ∧ X.cell? ⟨g, o + a * 13 + 8, none⟩ = some (.int .i64 0) ∧ X.cell? ⟨g, o + a * 13 + 9, none⟩ = some (.int .i64 0) ∧ X.cell? ⟨g, o + a * 13 + 10, none⟩ = some (.int .i64 0) ∧ X.cell? ⟨g, o + a * 13 + 11, none⟩ = some (.int .i64 0) ∧ X.cell? ⟨g, o + a * 13 + 12, none⟩ = some (.int .i64 0) ∧ X.cell? ⟨g, o + b * 13, none⟩ = some (.int .i64 y.c) ∧ X.cell? ⟨g, o + b * 13 + 1, none⟩ = some (.int .i64 y.n) ∧ X.cell? ⟨g, o + b * 13 + 2, none⟩ = some (.int .i64 y.call) ∧ X.cell? ⟨g, o + b * 13 + 3, none⟩ = some (.int .i64 y.turn) ∧ X.cell? ⟨g, o + b * 13 + 4, none⟩ = some (.int .i64 y.reply) ∧ X.cell? ⟨g, o + b * 13 + 5, none⟩ = some (.int .i64 y.err) ∧ X.cell? ⟨g, o + b * 13 + 6, none⟩ = some (.int .i64 y.tick) ∧ X.cell? ⟨g, o + b * 13 + 7, none⟩ = some (.int .i64 0) ∧ X.cell? ⟨g, o + b * 13 + 8, none⟩ = some (.int .i64 0) ∧ X.cell? ⟨g, o + b * 13 + 9, none⟩ = some (.int .i64 0) ∧ X.cell? ⟨g, o + b * 13 + 10, none⟩ = some (.int .i64 0) ∧ X.cell? ⟨g, o + b * 13 + 11, none⟩ = some (.int .i64 0) ∧ X.cell? ⟨g, o + b * 13 + 12, none⟩ = some (.int .i64 0))) (by kernel_rfl) ?_ (fun hHeld => ?_)
                        · exact HS.out _ HB.out
                        refine take_at 0 141 _ (v := ?v430) rfl rfl (by kernel_rfl) (by kernel_rfl) (by kernel_rfl) (fun _ _ _ h => h) (Or.inl ⟨by rfl, ?hy430⟩) (by assumption) ?rest430
                        case hy430 =>
                          intro wX hSw
                          try dsimp only at hSw
                          go_simp
                          first
                          | done
                          | (with_reducible rfl)
                        try simp only [Act.put, List.setIfInBounds_toArray, List.set_cons_zero, List.set_cons_succ]
                        refine take_at 1 142 _ (v := ?v431) rfl rfl (by kernel_rfl) (by kernel_rfl) (by kernel_rfl) (fun _ _ _ h => h) (Or.inl ⟨by rfl, ?hy431⟩) (by assumption) ?rest431
                        case hy431 =>
                          intro wX hSw
                          try dsimp only at hSw
                          go_simp
                          first
                          | done
                          | (with_reducible rfl)
                        try simp only [Act.put, List.setIfInBounds_toArray, List.set_cons_zero, List.set_cons_succ]
                        refine take_at 2 143 _ (v := ?v432) rfl rfl (by kernel_rfl) (by kernel_rfl) (by kernel_rfl) (fun _ _ _ h => h) (Or.inl ⟨by rfl, ?hy432⟩) (by assumption) ?rest432
                        case hy432 =>
                          intro wX hSw
                          try dsimp only at hSw
                          go_simp
                          first
                          | done
                          | (with_reducible rfl)
                        try simp only [Act.put, List.setIfInBounds_toArray, List.set_cons_zero, List.set_cons_succ]
                        refine take_at 3 144 _ (v := ?v433) rfl rfl (by kernel_rfl) (by kernel_rfl) (by kernel_rfl) (fun _ _ _ h => h) (Or.inl ⟨by rfl, ?hy433⟩) (by assumption) ?rest433
                        case hy433 =>
                          intro wX hSw
                          try dsimp only at hSw
                          go_simp
                          first
                          | done
                          | (with_reducible rfl)
                        try simp only [Act.put, List.setIfInBounds_toArray, List.set_cons_zero, List.set_cons_succ]
                        refine take_at 4 145 _ (v := ?v434) rfl rfl (by kernel_rfl) (by kernel_rfl) (by kernel_rfl) (fun _ _ _ h => h) (Or.inl ⟨by rfl, ?hy434⟩) (by assumption) ?rest434
                        case hy434 =>
                          intro wX hSw
                          try dsimp only at hSw
                          go_simp
                          first
                          | done
                          | (with_reducible rfl)
                        try simp only [Act.put, List.setIfInBounds_toArray, List.set_cons_zero, List.set_cons_succ]
                        refine take_at 5 146 _ (v := ?v435) rfl rfl (by kernel_rfl) (by kernel_rfl) (by kernel_rfl) (fun _ _ _ h => h) (Or.inl ⟨by rfl, ?hy435⟩) (by assumption) ?rest435
                        case hy435 =>
                          intro wX hSw
                          try dsimp only at hSw
                          go_simp
                          first
                          | done
                          | (with_reducible rfl)
                        try simp only [Act.put, List.setIfInBounds_toArray, List.set_cons_zero, List.set_cons_succ]
                        refine take_at 6 147 _ (v := ?v436) rfl rfl (by kernel_rfl) (by kernel_rfl) (by kernel_rfl) (fun _ _ _ h => h) (Or.inl ⟨by rfl, ?hy436⟩) (by assumption) ?rest436
                        case hy436 =>
                          intro wX hSw
                          try dsimp only at hSw
                          go_simp
                          first
                          | done
                          | (with_reducible rfl)
                        try simp only [Act.put, List.setIfInBounds_toArray, List.set_cons_zero, List.set_cons_succ]
                        refine take_at 7 148 _ (v := ?v437) rfl rfl (by kernel_rfl) (by kernel_rfl) (by kernel_rfl) (fun _ _ _ h => h) (Or.inl ⟨by rfl, ?hy437⟩) (by assumption) ?rest437
                        case hy437 =>
                          intro wX hSw
                          try dsimp only at hSw
                          go_simp
                          first
                          | done
                          | (with_reducible rfl)
                        try simp only [Act.put, List.setIfInBounds_toArray, List.set_cons_zero, List.set_cons_succ]
                        refine take_at 8 149 _ (v := ?v438) rfl rfl (by kernel_rfl) (by kernel_rfl) (by kernel_rfl) (fun _ _ _ h => h) (Or.inl ⟨by rfl, ?hy438⟩) (by assumption) ?rest438
                        case hy438 =>
                          intro wX hSw
                          try dsimp only at hSw
                          go_simp
                          first
                          | done
                          | (with_reducible rfl)
                        try simp only [Act.put, List.setIfInBounds_toArray, List.set_cons_zero, List.set_cons_succ]
                        refine take_at 9 150 _ (v := ?v439) rfl rfl (by kernel_rfl) (by kernel_rfl) (by kernel_rfl) (fun _ _ _ h => h) (Or.inl ⟨by rfl, ?hy439⟩) (by assumption) ?rest439
                        case hy439 =>
                          intro wX hSw
                          try dsimp only at hSw
                          go_simp
                          first
                          | done
                          | (with_reducible rfl)
                        try simp only [Act.put, List.setIfInBounds_toArray, List.set_cons_zero, List.set_cons_succ]
                        refine take_at 10 151 _ (v := ?v4310) rfl rfl (by kernel_rfl) (by kernel_rfl) (by kernel_rfl) (fun _ _ _ h => h) (Or.inl ⟨by rfl, ?hy4310⟩) (by assumption) ?rest4310
                        case hy4310 =>
                          intro wX hSw
                          try dsimp only at hSw
                          go_simp
                          first
                          | done
                          | (with_reducible rfl)
                        try simp only [Act.put, List.setIfInBounds_toArray, List.set_cons_zero, List.set_cons_succ]
                        refine take_at 11 152 _ (v := ?v4311) rfl rfl (by kernel_rfl) (by kernel_rfl) (by kernel_rfl) (fun _ _ _ h => h) (Or.inl ⟨by rfl, ?hy4311⟩) (by assumption) ?rest4311
                        case hy4311 =>
                          intro wX hSw
                          try dsimp only at hSw
                          go_simp
                          first
                          | done
                          | (with_reducible rfl)
                        try simp only [Act.put, List.setIfInBounds_toArray, List.set_cons_zero, List.set_cons_succ]
                        refine take_at 12 153 _ (v := ?v4312) rfl rfl (by kernel_rfl) (by kernel_rfl) (by kernel_rfl) (fun _ _ _ h => h) (Or.inl ⟨by rfl, ?hy4312⟩) (by assumption) ?rest4312
                        case hy4312 =>
                          intro wX hSw
                          try dsimp only at hSw
                          go_simp
                          first
                          | done
                          | (with_reducible rfl)
                        try simp only [Act.put, List.setIfInBounds_toArray, List.set_cons_zero, List.set_cons_succ]
                        refine take_at 13 154 _ (v := ?v4313) rfl rfl (by kernel_rfl) (by kernel_rfl) (by kernel_rfl) (fun _ _ _ h => h) (Or.inl ⟨by rfl, ?hy4313⟩) (by assumption) ?rest4313
                        case hy4313 =>
                          intro wX hSw
                          try dsimp only at hSw
                          go_simp
                          first
                          | done
                          | (with_reducible rfl)
                        try simp only [Act.put, List.setIfInBounds_toArray, List.set_cons_zero, List.set_cons_succ]
                        refine take_at 14 155 _ (v := ?v4314) rfl rfl (by kernel_rfl) (by kernel_rfl) (by kernel_rfl) (fun _ _ _ h => h) (Or.inl ⟨by rfl, ?hy4314⟩) (by assumption) ?rest4314
                        case hy4314 =>
                          intro wX hSw
                          try dsimp only at hSw
                          go_simp
                          first
                          | done
                          | (with_reducible rfl)
                        try simp only [Act.put, List.setIfInBounds_toArray, List.set_cons_zero, List.set_cons_succ]
                        refine take_at 15 156 _ (v := ?v4315) rfl rfl (by kernel_rfl) (by kernel_rfl) (by kernel_rfl) (fun _ _ _ h => h) (Or.inl ⟨by rfl, ?hy4315⟩) (by assumption) ?rest4315
                        case hy4315 =>
                          intro wX hSw
                          try dsimp only at hSw
                          go_simp
                          first
                          | done
                          | (with_reducible rfl)
                        try simp only [Act.put, List.setIfInBounds_toArray, List.set_cons_zero, List.set_cons_succ]
                        refine take_at 16 157 _ (v := ?v4316) rfl rfl (by kernel_rfl) (by kernel_rfl) (by kernel_rfl) (fun _ _ _ h => h) (Or.inl ⟨by rfl, ?hy4316⟩) (by assumption) ?rest4316
                        case hy4316 =>
                          intro wX hSw
                          try dsimp only at hSw
                          go_simp
                          first
                          | done
                          | (with_reducible rfl)
                        try simp only [Act.put, List.setIfInBounds_toArray, List.set_cons_zero, List.set_cons_succ]
                        refine take_at 17 158 _ (v := ?v4317) rfl rfl (by kernel_rfl) (by kernel_rfl) (by kernel_rfl) (fun _ _ _ h => h) (Or.inl ⟨by rfl, ?hy4317⟩) (by assumption) ?rest4317
                        case hy4317 =>
                          intro wX hSw
                          try dsimp only at hSw
                          go_simp
                          first
                          | done
                          | (with_reducible rfl)
                        try simp only [Act.put, List.setIfInBounds_toArray, List.set_cons_zero, List.set_cons_succ]
                        refine take_at 18 159 _ (v := ?v4318) rfl rfl (by kernel_rfl) (by kernel_rfl) (by kernel_rfl) (fun _ _ _ h => h) (Or.inl ⟨by rfl, ?hy4318⟩) (by assumption) ?rest4318
                        case hy4318 =>
                          intro wX hSw
                          try dsimp only at hSw
                          go_simp
                          first
                          | done
                          | (with_reducible rfl)
                        try simp only [Act.put, List.setIfInBounds_toArray, List.set_cons_zero, List.set_cons_succ]
                        refine take_at 19 160 _ (v := ?v4319) rfl rfl (by kernel_rfl) (by kernel_rfl) (by kernel_rfl) (fun _ _ _ h => h) (Or.inl ⟨by rfl, ?hy4319⟩) (by assumption) ?rest4319
                        case hy4319 =>
                          intro wX hSw
                          try dsimp only at hSw
                          go_simp
                          first
                          | done
                          | (with_reducible rfl)
                        try simp only [Act.put, List.setIfInBounds_toArray, List.set_cons_zero, List.set_cons_succ]
                        refine take_at 20 161 _ (v := ?v4320) rfl rfl (by kernel_rfl) (by kernel_rfl) (by kernel_rfl) (fun _ _ _ h => h) (Or.inl ⟨by rfl, ?hy4320⟩) (by assumption) ?rest4320
                        case hy4320 =>
                          intro wX hSw
                          try dsimp only at hSw
                          go_simp
                          first
                          | done
                          | (with_reducible rfl)
                        try simp only [Act.put, List.setIfInBounds_toArray, List.set_cons_zero, List.set_cons_succ]
                        refine take_at 21 162 _ (v := ?v4321) rfl rfl (by kernel_rfl) (by kernel_rfl) (by kernel_rfl) (fun _ _ _ h => h) (Or.inl ⟨by rfl, ?hy4321⟩) (by assumption) ?rest4321
                        case hy4321 =>
                          intro wX hSw
                          try dsimp only at hSw
                          go_simp
                          first
                          | done
                          | (with_reducible rfl)
                        try simp only [Act.put, List.setIfInBounds_toArray, List.set_cons_zero, List.set_cons_succ]
                        refine take_at 22 163 _ (v := ?v4322) rfl rfl (by kernel_rfl) (by kernel_rfl) (by kernel_rfl) (fun _ _ _ h => h) (Or.inl ⟨by rfl, ?hy4322⟩) (by assumption) ?rest4322
                        case hy4322 =>
                          intro wX hSw
                          try dsimp only at hSw
                          go_simp
                          first
                          | done
                          | (with_reducible rfl)
                        try simp only [Act.put, List.setIfInBounds_toArray, List.set_cons_zero, List.set_cons_succ]
                        refine take_at 23 14 _ (v := ?v4323) rfl rfl (by kernel_rfl) (by kernel_rfl) (by kernel_rfl) (fun _ _ _ h => h) (Or.inl ⟨by rfl, ?hy4323⟩) (by assumption) ?rest4323
                        case hy4323 =>
                          intro wX hSw
                          try dsimp only at hSw
                          go_simp
                          first
                          | done
                          | (with_reducible rfl)
                        try simp only [Act.put, List.setIfInBounds_toArray, List.set_cons_zero, List.set_cons_succ]
                        refine wpAnyH_done (by kernel_rfl) ?_ _
                        refine NoPanic.normal ?_
                        go_wp2
                        go_roundw
                        case rel => exact ⟨b + 1, by omega, by rw [HNEW.out]; simp, by go_num, Lib.hid (hb9.out.trans (HB.out.mono hb9.out.size))⟩
                        case measure => simp [intOf]; omega

                  · obtain rfl : b = a := by omega
                    have hbz : ¬ (b : Int) < (b : Int) := by omega
                    clear hlt2
                    go_wp2
                    go_roundw
                    case rel => exact ⟨b + 1, by omega, by rw [HSUC.out], by go_num, hb9⟩
                    case measure => simp [intOf]; omega
              · obtain rfl : a = N := by omega
                have haz : ¬ (a : Int) < (a : Int) := by omega
                have HW := Lib.hid (show respB M = wO M a from by rw [resp_wO, HML.out])
                obtain ⟨T, hT⟩ : ∃ T, wO M a = T := ⟨_, rfl⟩
                rw [hT] at HW ⊢
                clear hT hlt
                have HAW := Lib.hid (awake_any wr)
                go_wp2_with fail
                refine HAW.out.mono ?_
                rintro e w7 ⟨rfl, hb7⟩
                have HR2 := Lib.hid (resp_any (some ⟨g, o, none⟩) a co M w7 (((HOM.out.call hb8.out).call hb7).ls) HML.out ho1 ho2 (by omega))
                rw [HW.out] at HR2
                have HB7 := Lib.hid ((HBC.out.trans (hb8.out.mono HBC.out.size)).trans (hb7.mono (HBC.out.trans (hb8.out.mono HBC.out.size)).size))
                clear hb7
                go_wp2_with fail
                refine HR2.out.mono ?_
                rintro e w8 ⟨rfl, hb8'⟩
                have HB8 := Lib.hid (HB7.out.trans (hb8'.mono HB7.out.size))
                clear hb8'
                go_wp2
                go_ret
                exact ⟨by simp, HB8.out⟩
end Go.Proofs.Ytaimbkikiokenaa.Hi
