/- The walk of the law SchemaFinds. -/
import Derived.Test.YtjnlpgmocngenaaSfD
import Derived.Test.YtjnlpgmocngenaaSchI
import Derived.Deep.RegionHeld3
namespace Go.Proofs.Ytjnlpgmocngenaa.Sch
open Go.RowKit Go.Proofs.Ytjnlpgmocngenaa
set_option linter.unusedVariables false
set_option maxRecDepth 100000
theorem ts_of_tl {w wr : World} {v : Value} {ts : List Ty} (h : Tl w wr v ts) : Ts wr wr.heap.size v ts := by
  obtain ⟨ob, xs, h1, h2, h3⟩ := h.st
  rcases Nat.eq_zero_or_pos ts.length with h0 | h0
  · obtain ⟨A, c, rfl, h4, h5⟩ := h1.form
    exact ⟨A, c, rfl, h4, by unfold maxLen at h5; omega, fun j hj => by omega⟩
  · obtain ⟨g, o, cap, rfl, ho, h4, h5, h6, _⟩ := h1.shape h0
    refine ⟨_, cap, rfl, h4, by unfold maxLen at h5; omega, fun j hj => ?_⟩
    obtain ⟨fv, a, b, c⟩ := h3 j hj
    exact ⟨g, o, fv, rfl, h1.lt g ho, h6 _ _ a, h6 _ _ b, c.keep fun q hq _ => ⟨rfl, hq⟩⟩
theorem fine_of {ts : List Ty} (h : NewR ts 0) : Fine ts ts.length := by
  rcases h with ⟨_, h⟩ | ⟨_, _, _, _, _, h⟩ | ⟨_, _, _, _, _, _, h⟩ | ⟨_, h, _⟩
  · omega
  · omega
  · omega
  · exact h
theorem idx_self {l : List ByteArray} {k : Nat} (hk : k < l.length) (h : idx (l.take k) l[k] < 0) : idx l l[k] = k :=
  idx_hit hk rfl ((nof_take (by omega)).2 h)
theorem fine_idx {ts : List Ty} (h : Fine ts ts.length) {i : Nat} (hi : i < ts.length) : idx (ts.map Prod.fst) ts[i].1 = i := by
  have h2 := (h i hi hi).2
  rw [map_takeT] at h2
  have := idx_self (l := ts.map Prod.fst) (k := i) (by rw [List.length_map]; exact hi) (by rw [List.getElem_map]; exact h2)
  rwa [List.getElem_map] at this
theorem field_idx {fs : List Fld} (h : ∀ k (h : k < fs.length), OkF fs k h) {i : Nat} (hi : i < fs.length) : idx (fs.map Prod.fst) fs[i].1 = i := by
  have h2 := (h i hi).2.2
  rw [map_take] at h2
  have := idx_self (l := fs.map Prod.fst) (k := i) (by rw [List.length_map]; exact hi) (by rw [List.getElem_map]; exact h2)
  rwa [List.getElem_map] at this
def noone : ByteArray := ⟨#[110, 111, 32, 111, 110, 101]⟩
theorem noone_no : nameB noone.data.toList = false := rfl
theorem not_noone {s : ByteArray} (h : nameB s.data.toList = true) : s.toList ≠ noone.toList := fun e => by
  rw [toList_data, toList_data] at e
  rw [e, noone_no] at h
  cases h
theorem noone_types {ts : List Ty} (h : Fine ts ts.length) : idx (ts.map Prod.fst) noone < 0 := idx_neg.2 fun i hi => by
  rw [List.getElem_map]
  have hl : i < ts.length := by rw [List.length_map] at hi; exact hi
  exact not_noone (h i hl hl).1.1
theorem noone_fields {fs : List Fld} (h : ∀ k (h : k < fs.length), OkF fs k h) : idx (fs.map Prod.fst) noone < 0 := idx_neg.2 fun i hi => by
  rw [List.getElem_map]
  have hl : i < fs.length := by rw [List.length_map] at hi; exact hi
  exact not_noone (h i hl).1
theorem nms_lies {w w' : World} {A : Option Addr} {n c : Nat} {ts : List Ty} (h : Nms w w' (.slice A n c) ts) : ∀ j (hj : j < ts.length), ∃ g o, A = some ⟨g, o, none⟩ ∧ g < w'.heap.size ∧ w'.cell? ⟨g, o + j, none⟩ = some (.string ts[j].1) := fun j hj => by
  obtain ⟨ob, h1, h2⟩ := h.sg
  obtain ⟨g, o, cap, e, ho, _, _, hc, _⟩ := h1.shape (by omega)
  injection e with e1 e2 e3
  subst e1
  refine ⟨g, o, rfl, h1.lt g ho, hc j _ ?_⟩
  unfold nmV
  rw [List.getElem?_map, List.getElem?_eq_getElem hj]
  rfl
set_option maxHeartbeats 8000000 in
theorem finds_law (A : Option Addr) (n c : Nat) (tl : List Ty) (hn : tl.length = n) {w : World} (hts : Ts w w.heap.size (.slice A n c) tl) (hsh : ∀ t ∈ tl, Short t) (od : Int) (hod : (Lit.int .i64 od).wf = true) :
    Calls Try.prog 3 #[.slice A n c, .int .i64 od] w fun e w' => e = .returned (.bool true) ∧ Below w.heap.size w w' := by
  have HA := Lib.hid (near_any A n c tl w hn hts hsh od)
  clear hn hts hsh hod
  go_enter Try.func3, Try.ntmps3
  go_wp2_with fail
  refine HA.out.mono ?_
  rintro e w1 ⟨v, ts, rfl, htl⟩
  have HTL := Lib.hid htl
  obtain ⟨hl5, hl4⟩ := htl.sh
  have HTS := Lib.hid (ts_of_tl htl)
  have hl16 : ts.length ≤ 16 := by omega
  have HL4 := Lib.hid hl4
  clear htl hl4 HA
  go_wp2_with fail
  refine (new_any v ts w1.heap.size _ HTS.out (Nat.le_refl _)).mono ?_
  rintro e w2 ⟨p, ec, rfl, hnr, hsc, hno, hb2⟩
  have HB2 := Lib.hid hb2
  have HNR := Lib.hid hnr
  have HSC := Lib.hid hsc
  have HNO := Lib.hid hno
  clear hnr hsc hno hb2
  go_wp2_with fail
  refine (wrong_any v ts _ (HTS.out.below HB2.out HB2.out.size) hl16 (fun t ht => by have := HL4.out t ht; omega)).mono ?_
  rintro e w3 ⟨ec2, rfl, hnr2, hb3⟩
  obtain rfl : ec = ec2 := newR_one HNR.out hnr2
  have hw3 := Lib.hid (HTL.out.be.trans ((HB2.out.mono HTL.out.be.size).trans (hb3.mono (Nat.le_trans HTL.out.be.size HB2.out.size))))
  have HB3 := Lib.hid hb3
  clear hnr2 hb3
  by_cases h0 : ec = 0
  · subst h0
    have HSC3 := Lib.hid ((HSC.out rfl).below HB3.out HB3.out.size)
    have HFN := Lib.hid (fine_of HNR.out)
    clear HSC HNO HNR
    go_wp2_with fail
    refine (names_any p ts _ HSC3.out hl16).mono ?_
    rintro e w4 ⟨nv, rfl, hnm⟩
    have HNM := Lib.hid hnm
    have HSC4 := Lib.hid (HSC3.out.below hnm.be hnm.be.size)
    have HB4 := Lib.hid hnm.be
    clear hnm
    go_wp2_with fail
    refine (len_any p ts _ _ HSC4.out).mono ?_
    rintro e w5 ⟨rfl, rfl⟩
    obtain ⟨N, hN⟩ : ∃ N, ts.length = N := ⟨_, rfl⟩
    have HX4 := Lib.hid ((HTS.out.below HB2.out HB2.out.size).below HB3.out HB3.out.size |>.below HB4.out HB4.out.size)
    obtain ⟨xA, xc, rfl, hxn, hxc, hx0⟩ := id HX4.out
    obtain ⟨oN, hsgN, hx1⟩ := HNM.out.sg
    obtain ⟨nA, nc, rfl, hnn, hnc⟩ := hsgN.form
    have hnc9 : nc ≤ 9223372036854775807 := by unfold maxLen at hnc; omega
    rw [hN] at hl5 hl16 hxn hnn ⊢
    have HNL := Lib.hid (nms_lies HNM.out)
    have hw4 := Lib.hid (hw3.out.trans (HB4.out.mono hw3.out.size))
    have HNN := Lib.hid hN
    clear hx0 hx1 hsgN hnc hN HTS HB2 HB3 HB4 hw3 HNM HSC3 HTL
    go_wp2
    go_loopw [9, 10, 11, 12, 13, 14, 15, 16] (fun v9 s10 s11 s12 s13 s14 s15 s16 wx => ∃ i : Nat, i ≤ N ∧ v9 = .int .i64 i ∧ Hid (Below w4.heap.size w4 wx)) (fun v9 _ _ _ _ _ _ _ _ => N - (intOf v9).toNat)
    case atStart => exact ⟨0, by omega, rfl, Lib.hid (Below.refl _ _)⟩
    case round =>
      obtain ⟨i, hiN, rfl, HBx⟩ := hrel
      obtain ⟨V, rfl⟩ : ∃ V, V = wr := ⟨_, rfl⟩
      have hV := HBx.out.size
      by_cases hlt : i < N
      · have hi1 : (i : Int) < (N : Int) := by omega
        have hit : i < ts.length := by rw [HNN.out]; exact hlt
        obtain ⟨gx, ox, e1, hgx, x0⟩ : ∃ gx ox, xA = some ⟨gx, ox, none⟩ ∧ gx < w4.heap.size ∧ w4.cell? ⟨gx, ox + i * 2, none⟩ = some (.string ts[i].1) ∧ ∃ FA fc, w4.cell? ⟨gx, ox + i * 2 + 1, none⟩ = some (.slice FA ts[i].2.length fc) ∧ ts[i].2.length ≤ fc ∧ fc ≤ 9223372036854775807 ∧ Fs w4 w4.heap.size (.slice FA ts[i].2.length fc) ts[i].2 := by
          obtain ⟨A', c', e1, _, _, h3⟩ := HX4.out
          injection e1 with e1 _ _
          subst e1
          obtain ⟨g, o, fv, e2, hg, c0, c1, hf⟩ := h3 i hit
          obtain ⟨A2, c2, rfl, h5, h6, h7⟩ := id hf
          exact ⟨g, o, e2, hg, c0, A2, c2, c1, h5, h6, hf⟩
        subst e1
        obtain ⟨x0, FA, fc, x1, hfc1, hfc2, hfx⟩ := x0
        obtain ⟨gn, on, e1, hgn, y0⟩ := HNL.out i hit
        subst e1
        have hfl := HL4.out _ (List.getElem_mem hit)
        obtain ⟨tn, htn⟩ : ∃ tn, ts[i].1 = tn := ⟨_, rfl⟩
        obtain ⟨fs, hfs⟩ : ∃ fs, ts[i].2 = fs := ⟨_, rfl⟩
        have hidx := fine_idx HFN.out hit
        have hti : ts[i]? = some (tn, fs) := by rw [List.getElem?_eq_getElem hit, ← htn, ← hfs]
        have hok := (HFN.out i hit hit).1.2.2
        rw [htn] at x0 y0 hidx
        rw [hfs] at x1 hfc1 hfx hfl hok
        obtain ⟨fl, hfl2⟩ : ∃ fl, fs.length = fl := ⟨_, rfl⟩
        rw [hfl2] at x1 hfc1 hfx hfl
        have HIDX := Lib.hid hidx
        have HTI := Lib.hid hti
        have HOK := Lib.hid hok
        have HFX := Lib.hid hfx
        have HFL := Lib.hid hfl2
        have HXC0 := Lib.hid x0
        have HXC1 := Lib.hid x1
        have HYC0 := Lib.hid y0
        clear htn hfs hidx hti hok hfx hfl2
        have a0 := (HBx.out.cell (p := ⟨gx, ox + i * 2, none⟩) hgx).trans HXC0.out
        clear x0 x1 y0
        go_wp2_with fail
        refine (find_yes p ts tn i fs _ (HSC4.out.below HBx.out hV) HIDX.out HTI.out (by rw [HFL.out]; omega)).mono ?_
        rintro e w6 ⟨v', rfl, hf6, hb6⟩
        have HF6 := Lib.hid hf6
        obtain ⟨tA, tc, rfl, htc1, htc2, hx2⟩ := hf6
        rw [HFL.out] at htc1 HF6 ⊢
        have HW6 := Lib.hid (HBx.out.trans (hb6.mono hV))
        clear a0 hx2 hb6
        have a0 := ((HW6.out.alloc HW6.out.size (.cells #[.string tn, .slice tA fl tc] 35)).cell (p := ⟨gx, ox + i * 2, none⟩) hgx).trans HXC0.out
        have a1 := ((HW6.out.alloc HW6.out.size (.cells #[.string tn, .slice tA fl tc] 35)).cell (p := ⟨gx, ox + i * 2 + 1, none⟩) hgx).trans HXC1.out
        have a2 := ((HW6.out.alloc HW6.out.size (.cells #[.string tn, .slice tA fl tc] 35)).cell (p := ⟨gn, on + i, none⟩) hgn).trans HYC0.out
        have hr7 : Row (w6.alloc (.cells #[.string tn, .slice tA fl tc] 35)) w6.heap.size 35 #[.string tn, .slice tA fl tc] := Row.made _ _ _
        have t0 := (hr7.cell 0).trans (show #[Value.string tn, .slice tA fl tc][0]? = some (.string tn) from rfl)
        have t1 := (hr7.cell 1).trans (show #[Value.string tn, .slice tA fl tc][1]? = some (.slice tA fl tc) from rfl)
        have hF7 : FsS (w6.alloc (.cells #[.string tn, .slice tA fl tc] 35)) (fun g => g < (w6.alloc (.cells #[.string tn, .slice tA fl tc] 35)).heap.size) (.slice tA fl tc) fs := HF6.out.keep (fun q hq hs => ⟨Below.heap_alloc _ _ _ hq, by simp; omega⟩)
        have hB7 : Below w4.heap.size w4 (w6.alloc (.cells #[.string tn, .slice tA fl tc] 35)) := HW6.out.alloc HW6.out.size _
        have HR7 := Lib.hid hr7
        have HF7 := Lib.hid hF7
        have HB7 := Lib.hid hB7
        clear hr7 hF7 hB7 HF6
        go_upto_region 14 with fail
        generalize (w6.alloc (.cells #[.string tn, .slice tA fl tc] 35)) = W7 at HR7 HF7 HB7 a0 a1 a2 t0 t1 ⊢
        generalize w6.heap.size = tb at HR7 t0 t1 ⊢
        clear HW6
        have htb := HR7.out.lt
        go_quiet (fail)
        rename_i d0
        go_wp2
        clear a0 a1 a2
        go_loopw [12, 13, 14] (fun v12 s13 s14 wx => ∃ k : Nat, k ≤ fl ∧ v12 = .int .i64 k ∧ Hid (Below W7.heap.size W7 wx)) (fun v12 _ _ _ => fl - (intOf v12).toNat)
        case atStart => exact ⟨0, by omega, rfl, Lib.hid (below_dN (Below.refl _ _) _)⟩
        case round =>
          obtain ⟨k, hkf, rfl, HBy⟩ := hrel
          have hy := HBy.out.size
          have b0 := (HBy.out.cell (p := ⟨tb, 0, none⟩) htb).trans t0
          have b1 := (HBy.out.cell (p := ⟨tb, 1, none⟩) htb).trans t1
          have hB4y := HB7.out.trans (HBy.out.mono HB7.out.size)
          have HB4Y := Lib.hid hB4y
          clear hB4y
          by_cases hkl : k < fl
          · have hk1 : (k : Int) < (fl : Int) := by omega
            have hkt : k < fs.length := by rw [HFL.out]; exact hkl
            obtain ⟨A5, c5, e1, _, _, h5⟩ := id HF7.out
            injection e1 with e1 e2 e3
            subst e1 e3
            clear e2
            obtain ⟨g5, o5, e5, hg5, f0, f1⟩ := h5 k hkt
            subst e5
            obtain ⟨A6, c6, e1, _, _, h6⟩ := id HFX.out
            injection e1 with e1 e2 e3
            subst e1 e3
            obtain ⟨g6, o6, e6, hg6, q0, q1⟩ := h6 k hkt
            subst e6
            obtain ⟨fnm, hfnm⟩ : ∃ x, fs[k].1 = x := ⟨_, rfl⟩
            obtain ⟨fkd, hfkd⟩ : ∃ x, fs[k].2 = x := ⟨_, rfl⟩
            have hfi := field_idx HOK.out hkt
            have hfg : fs[k]? = some (fnm, fkd) := by rw [List.getElem?_eq_getElem hkt, ← hfnm, ← hfkd]
            rw [hfnm] at f0 q0 hfi
            rw [hfkd] at f1 q1
            have HFI := Lib.hid hfi
            have HFG := Lib.hid hfg
            have j0 := (HBy.out.cell (p := ⟨g5, o5 + k * 2, none⟩) hg5).trans f0
            have J1 := Lib.hid ((HBy.out.cell (p := ⟨g5, o5 + k * 2 + 1, none⟩) hg5).trans f1)
            have P0 := Lib.hid ((HB4Y.out.cell (p := ⟨g6, o6 + k * 2, none⟩) hg6).trans q0)
            have P1 := Lib.hid ((HB4Y.out.cell (p := ⟨g6, o6 + k * 2 + 1, none⟩) hg6).trans q1)
            have HX1 := Lib.hid ((HB4Y.out.cell (p := ⟨gx, ox + i * 2 + 1, none⟩) hgx).trans HXC1.out)
            clear hfnm hfkd hfi hfg f0 f1 q0 q1 h5 h6 e2
            have htbw : tb < wr.heap.size := Nat.lt_of_lt_of_le htb hy
            have hg5w : g5 < wr.heap.size := Nat.lt_of_lt_of_le hg5 hy
            go_upto_region 19 with fail
            go_region_held3 (fun X => X.cell? ⟨tb, 0, none⟩ = some (.string tn) ∧ X.cell? ⟨tb, 1, none⟩ = some (.slice (some ⟨g5, o5, none⟩) fl tc) ∧ X.cell? ⟨g5, o5 + k * 2, none⟩ = some (.string fnm))
              (first | exact ⟨b0, b1, j0⟩ | exact ⟨(HB8.out.cell (p := ⟨tb, 0, none⟩) htbw).trans b0, (HB8.out.cell (p := ⟨tb, 1, none⟩) htbw).trans b1, (HB8.out.cell (p := ⟨g5, o5 + k * 2, none⟩) hg5w).trans j0⟩ | fail)
              ((go_at_call 16; refine (field_yes p ts tn fnm w4.heap.size i k fs _ (HSC4.out.below (HB4Y.out.trans ((show Below wr.heap.size wr _ from by go_grown).mono HB4Y.out.size)) (Nat.le_refl _)) (Nat.le_trans HB4Y.out.size (show Below wr.heap.size wr _ from by go_grown).size) HIDX.out HTI.out HFI.out HFG.out).mono ?_; rintro e w8 ⟨rfl, hb8⟩; have HB8 : Hid (Below wr.heap.size wr w8) := Lib.hid ((show Below wr.heap.size wr _ from by go_grown).trans (hb8.mono (show Below wr.heap.size wr _ from by go_grown).size)); clear hb8))
            all_goals
              have d1 := (HB8.out.cell (p := ⟨tb, 1, none⟩) htbw).trans b1
              have d2 := (HB8.out.cell (p := ⟨g5, o5 + k * 2, none⟩) hg5w).trans j0
              have d3 := (HB8.out.cell (p := ⟨g5, o5 + k * 2 + 1, none⟩) hg5w).trans J1.out
              have d4 := (HB8.out.cell (p := ⟨gx, ox + i * 2 + 1, none⟩) (Nat.lt_of_lt_of_le hgx HB4Y.out.size)).trans HX1.out
              have d5 := (HB8.out.cell (p := ⟨g6, o6 + k * 2, none⟩) (Nat.lt_of_lt_of_le hg6 HB4Y.out.size)).trans P0.out
              have d6 := (HB8.out.cell (p := ⟨g6, o6 + k * 2 + 1, none⟩) (Nat.lt_of_lt_of_le hg6 HB4Y.out.size)).trans P1.out
              clear b0 b1 j0
              go_upto_region 20 with fail
              go_quiet (fail)
              go_wp2
              go_roundw
              case rel => exact ⟨k + 1, by omega, by go_num, Lib.hid (below_dN (HBy.out.trans (HB8.out.mono hy)) _)⟩
              case measure => simp [intOf]; omega
          · obtain rfl : k = fl := by omega
            have hk1 : ¬ (k : Int) < (k : Int) := by omega
            go_wp2_with fail
            refine (field_no2 p ts tn noone i fs _ (HSC4.out.below HB4Y.out HB4Y.out.size) HIDX.out HTI.out (noone_fields HOK.out)).mono ?_
            rintro e w9 ⟨rfl, hb9⟩
            have HW9 := Lib.hid (HB4Y.out.trans (hb9.mono HB4Y.out.size))
            clear hb9 b0 b1
            go_wp2
            go_roundw
            case rel => exact ⟨i + 1, by omega, by go_num, HW9⟩
            case measure => simp [intOf]; omega
      · obtain rfl : i = N := by omega
        have hi1 : ¬ (i : Int) < (i : Int) := by omega
        go_wp2_with fail
        refine (find_no p ts noone _ (HSC4.out.below HBx.out hV) (noone_types HFN.out)).mono ?_
        rintro e w9 ⟨rfl, hb9⟩
        have HW9 := Lib.hid (HBx.out.trans (hb9.mono hV))
        clear hb9
        go_wp2_with fail
        refine (awake_any _).mono ?_
        rintro e w10 ⟨rfl, hb10⟩
        have HW10 := Lib.hid ((HW9.out.alloc HW9.out.size _).trans (hb10.mono (by have := HW9.out.size; simp; omega)))
        clear hb10
        go_wp2
        go_ret
        exact ⟨rfl, hw4.out.trans (HW10.out.mono hw4.out.size)⟩
  · have hb0 : (ec == 0) = false := by simpa using h0
    obtain rfl := HNO.out h0
    go_wp2_with fail
    refine (awake_any _).mono ?_
    rintro e w4 ⟨rfl, hb4⟩
    have HB4 := Lib.hid hb4
    clear hb4
    go_wp2
    go_ret
    exact ⟨rfl, hw3.out.trans (HB4.out.mono hw3.out.size)⟩
end Go.Proofs.Ytjnlpgmocngenaa.Sch
