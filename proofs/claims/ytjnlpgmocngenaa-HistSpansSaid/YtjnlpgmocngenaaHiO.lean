/- The walk of the law HistSpans. -/
import Derived.Test.YtjnlpgmocngenaaHiP
import Derived.BigQuiet
namespace Go.Proofs.Ytjnlpgmocngenaa.Hi
open Go.RowKit Go.Proofs.Ytjnlpgmocngenaa Go.Maps
set_option linter.unusedVariables false
set_option maxRecDepth 100000
theorem lv_seg {w : World} {A : Option Addr} {n c : Nat} {xs : List Hv} {ob : Option Nat} (h : Seg w 85 11 (.slice A n c) n (ecells xs) ob) (hn : n = xs.length) : Lv w A xs := fun i x hx => by
  have hi : i < xs.length := (List.getElem?_eq_some_iff.1 hx).1
  obtain ⟨g, o, cap, e, hob, _, _, hc, _⟩ := h.shape (by omega)
  injection e with e1 _ e3
  subst e1
  exact ⟨g, o, rfl, h.lt g hob, fun j u hj => by rw [Nat.add_assoc]; exact hc _ _ (ecells_get xs i x j u hx hj)⟩
theorem ev_c {w : World} {eb : Nat} {e : Hv} (h : Row w eb 85 e.cells.toArray) (i : Nat) (u : Value) (hu : e.cells[i]? = some u) : w.cell? ⟨eb, i, none⟩ = some u := by
  rw [h.cell]
  simpa using hu
theorem eq68 (W : World) : (Op.equalIn 9998 81 (.agg #[.int .i64 0, .int .i64 0, .int .i64 0, .int .i64 0, .int .i64 0, .int .i64 0]) (.agg #[.int .i64 0, .int .i64 0, .int .i64 0, .int .i64 0, .int .i64 0, .int .i64 0])).run Try.prog W = .ok true W := by
  kernel_rfl
/-- What the law's loop holds. -/
structure Lp (w0 w : World) (hv : Value) (es : List Hv) (v : Value) (k : Nat) (fb : Bool) (R : Option (List Sp)) : Prop where
  st : ∃ xs, Hs w0 w hv es v xs ∧ (fb = true → spansS (es.drop k) k xs = R ∧ xs.length ≤ k) ∧ (fb = false → R = none)
theorem lp_no {w0 w : World} {hv v : Value} {es : List Hv} {k k' : Nat} {xs : List Sp} {e : Hv} {R : Option (List Sp)} (h : Hs w0 w hv es v xs) (hn : noteS xs (k : Int) e = none) (hd : es.drop k = e :: es.drop (k + 1)) (hR : spansS (es.drop k) k xs = R) : Lp w0 w hv es v k' false R :=
  ⟨xs, h, fun e => (by cases e), fun _ => by rw [hd] at hR; unfold spansS at hR; rw [hn] at hR; exact hR.symm⟩
theorem lp_yes {w0 w : World} {hv v : Value} {es : List Hv} {k : Nat} {xs ys : List Sp} {e : Hv} {R : Option (List Sp)} (h : Hs w0 w hv es v ys) (hn : noteS xs (k : Int) e = some ys) (hd : es.drop k = e :: es.drop (k + 1)) (hR : spansS (es.drop k) k xs = R) (hl : xs.length ≤ k) : Lp w0 w hv es v (k + 1) true R :=
  ⟨ys, h, fun _ => ⟨by rw [hd] at hR; unfold spansS at hR; rw [hn] at hR; exact hR, by have := noteS_len hn; omega⟩, fun e => (by cases e)⟩
/-- A walk, cut where it goes on by the kind of what happened. -/
structure Cut4 (C : Prop) where
  G1 : Prop
  G2 : Prop
  G3 : Prop
  G4 : Prop
  ok : Hid G1 → Hid G2 → Hid G3 → Hid G4 → C
set_option maxHeartbeats 8000000 in
noncomputable def part1 (A : Option Addr) (n c : Nat) (f : Nat → Int) (hn : n ≤ c) (hc : c ≤ 9223372036854775807) (hf : Hid (∀ k, -9223372036854775808 ≤ f k ∧ f k ≤ 9223372036854775807)) (w : World) (hl : Hid (Lies w w.heap.size A n (fun k => .int .i64 (f k)))) (od : Int) (hod : Hid (-9223372036854775808 ≤ od ∧ od ≤ 9223372036854775807)) :
    Cut4 (Calls Try.prog 7 #[.slice A n c, .int .i64 od] w fun e w' => e = .returned (.bool true) ∧ Below w.heap.size w w') := by
  apply Cut4.mk
  case ok =>
    intro g1 g2 g3 g4
    obtain ⟨i1, hi1, hy0, hy1, hy2⟩ := info_parts span_info
    go_enter Try.func7, Try.ntmps7
    go_wp2_with fail
    refine (made_any A n c f hn hc hf.out od hod.out w hl.out).mono ?_
    rintro e w1 ⟨hv, es, rfl, hmv⟩
    obtain ⟨oe, hseg⟩ := hmv.sg
    obtain ⟨hA, hcap, rfl, hh1, hh2⟩ := hseg.form
    have hh9 : hcap ≤ 9223372036854775807 := by unfold maxLen at hh2; omega
    obtain ⟨N, hN⟩ : ∃ N, es.length = N := ⟨_, rfl⟩
    have hN30 : N ≤ 30 := by rw [← hN]; exact hmv.ln
    have HEV := Lib.hid hmv.ev
    obtain ⟨R, hR⟩ : ∃ R, spansS es 0 [] = R := ⟨_, rfl⟩
    have HR0 := Lib.hid hR
    have hH0 : Hs w (w1.alloc (.cells #[] 87)) (.slice hA es.length hcap) es (.slice (some ⟨w1.heap.size, 0, none⟩) 0 0) [] :=
      ⟨⟨none, hmv.be.alloc hmv.be.size _, ⟨oe, hseg.alloc _⟩, seg_zeroK _ _ _ _, fun g h => (by cases h)⟩, fun i j x y h => (by simp at h)⟩
    have hL0 : Lp w (w1.alloc (.cells #[] 87)) (.slice hA es.length hcap) es (.slice (some ⟨w1.heap.size, 0, none⟩) 0 0) 0 true R := ⟨[], hH0, fun _ => ⟨hR, Nat.le_refl _⟩, fun e => (by cases e)⟩
    rw [hN] at hL0 hh1 ⊢
    have HN := Lib.hid hN
    have HL0 := Lib.hid hL0
    clear hmv hseg hN hR hH0 hL0 hh2
    go_upto_region 3 with fail
    generalize w1.alloc (.cells #[] 87) = W0 at HL0 ⊢
    go_wp2
    go_loopw [8, 6, 7, 9, 10, 11, 12] (fun v8 v6 v7 s9 s10 s11 s12 wr => ∃ (k : Nat) (fb : Bool), k ≤ N ∧ v8 = .int .i64 k ∧ v7 = .bool fb ∧ Hid (Lp w wr (.slice hA N hcap) es v6 k fb R)) (fun v8 _ _ _ _ _ _ _ => N - (intOf v8).toNat)
    case atStart => exact ⟨0, true, by omega, rfl, rfl, HL0⟩
    case round =>
      clear HL0
      obtain ⟨k, fb, hkN, rfl, rfl, hL⟩ := hrel
      obtain ⟨xs, hH, hRt, hRf⟩ := hL.out.st
      clear hL
      have hx3 : (fb = true ∧ k < N) ∨ (fb = false ∧ k < N) ∨ (fb = false ∧ k = N) ∨ (fb = true ∧ k = N) := by
        rcases Nat.lt_or_ge k N with h | h
        · cases fb
          · exact .inr (.inl ⟨rfl, h⟩)
          · exact .inl ⟨rfl, h⟩
        · have h2 : k = N := by omega
          cases fb
          · exact .inr (.inr (.inl ⟨rfl, h2⟩))
          · exact .inr (.inr (.inr ⟨rfl, h2⟩))
      have HSP : Hid (∀ (W : World), Below wr.heap.size wr W → Calls Try.prog 35 #[.slice hA N hcap] W fun en w' => Spanned W (spansS es 0 []) en w') := Lib.hid (by
        intro W hbW
        obtain ⟨ob, hcc⟩ := hH.hc
        obtain ⟨oe, hseg⟩ := hcc.he
        rw [HN.out] at hseg
        exact spans_any hA N hcap es W ((lv_seg hseg HN.out.symm).call hbW) HN.out hh1 hh9 (by omega) (fun i e he => by
          obtain ⟨h1, h2, h3⟩ := HEV.out i e he
          exact ⟨h1, by omega, by omega⟩))
      rcases hx3 with ⟨rfl, hlt⟩ | ⟨rfl, hlt⟩ | ⟨rfl, rfl⟩ | ⟨rfl, rfl⟩
      · have hki : (k : Int) < (N : Int) := by omega
        obtain ⟨hR, hxl⟩ := hRt rfl
        obtain ⟨e, he⟩ : ∃ e, es[k]? = some e := ⟨_, List.getElem?_eq_getElem (by rw [HN.out]; exact hlt)⟩
        obtain ⟨hec, hen⟩ := HEV.out k e he
        have hd : es.drop k = e :: es.drop (k + 1) := by
          rw [← (List.getElem?_eq_some_iff.1 he).2, List.getElem_cons_drop]
        obtain ⟨ob, hcc⟩ := hH.hc
        obtain ⟨oe, hseg⟩ := hcc.he
        obtain ⟨g, o, rfl, hg, hcl⟩ := lv_seg (by rw [HN.out] at hseg; exact hseg) HN.out.symm k e he
        obtain ⟨sA, sc, rfl, hs1, hs2⟩ := hcc.sg.form
        have hs9 : sc ≤ 9223372036854775807 := by unfold maxLen at hs2; omega
        obtain ⟨ek, ec, en, eerr, etick⟩ := e
        have c0 := hcl 0 (.int .i64 ek) rfl
        have c1 := hcl 1 (.int .i64 ec) rfl
        have c2 := hcl 2 (.int .i64 en) rfl
        have c3 := hcl 3 (.int .i64 eerr) rfl
        have c4 := hcl 4 (.int .i64 etick) rfl
        have c5 := hcl 5 (.int .i64 0) rfl
        have c6 := hcl 6 (.int .i64 0) rfl
        have c7 := hcl 7 (.int .i64 0) rfl
        have c8 := hcl 8 (.int .i64 0) rfl
        have c9 := hcl 9 (.int .i64 0) rfl
        have c10 := hcl 10 (.int .i64 0) rfl
        simp only [Nat.add_zero] at c0
        obtain ⟨hen1, hen2⟩ := hen
        dsimp only at hec hen1 hen2
        obtain ⟨L, hLl⟩ : ∃ L, xs.length = L := ⟨_, rfl⟩
        have hH2 := hH.alloc (.cells #[.int .i64 ek, .int .i64 ec, .int .i64 en, .int .i64 eerr, .int .i64 etick, .int .i64 0, .int .i64 0, .int .i64 0, .int .i64 0, .int .i64 0, .int .i64 0] 85)
        rw [hLl] at hH2 hs1 hxl ⊢
        have HH := Lib.hid hH2
        have HLL := Lib.hid hLl
        have HR := Lib.hid hR
        have HD := Lib.hid hd
        have hXr : Row (wr.alloc (.cells #[.int .i64 ek, .int .i64 ec, .int .i64 en, .int .i64 eerr, .int .i64 etick, .int .i64 0, .int .i64 0, .int .i64 0, .int .i64 0, .int .i64 0, .int .i64 0] 85)) wr.heap.size 85 (Hv.cells ⟨ek, ec, en, eerr, etick⟩).toArray := Row.made _ _ _
        have HX := Lib.hid hXr
        clear hcl hcc hseg hH hH2 hLl hR hd he hRt hRf hs2 hXr
        go_upto_region 7 with fail
        generalize wr.alloc (.cells #[.int .i64 ek, .int .i64 ec, .int .i64 en, .int .i64 eerr, .int .i64 etick, .int .i64 0, .int .i64 0, .int .i64 0, .int .i64 0, .int .i64 0, .int .i64 0] 85) = W1 at HH HX ⊢
        clear c0 c1 c2 c3 c4 c5 c6 c7 c8 c9 c10
        generalize wr.heap.size = eb at HX ⊢
        go_wp2
        go_loopw [12, 10, 11] (fun v12 v10 v11 wx => ∃ j : Nat, j ≤ L ∧ v12 = .int .i64 j ∧ v10 = .int .i64 (lst (hit ec en) xs j) ∧ v11 = .int .i64 (lst (hit ec (en - 1)) xs j) ∧ Hid (∃ d, wx = W1.drewN d)) (fun v12 _ _ _ => L - (intOf v12).toNat)
        case atStart => exact ⟨0, by omega, rfl, rfl, rfl, Lib.hid ⟨0, rfl⟩⟩
        case round =>
          obtain ⟨j, hjL, rfl, rfl, rfl, hD⟩ := hrel
          obtain ⟨d, rfl⟩ := hD.out
          clear hD
          by_cases hjl : j < L
          · have hji : (j : Int) < (L : Int) := by omega
            obtain ⟨x, hx⟩ : ∃ x, xs[j]? = some x := ⟨_, List.getElem?_eq_getElem (by rw [HLL.out]; exact hjl)⟩
            have hl1 := lst_succ (hit ec en) xs j x hx
            have hl2 := lst_succ (hit ec (en - 1)) xs j x hx
            obtain ⟨g2, o2, cap2, hv2, hg2, _, _, hcl, _, _⟩ := HH.out.at hx
            rw [HLL.out] at hv2
            injection hv2 with e1 _ e3
            subst e1 e3
            obtain ⟨xc, xn, xcall, xturn, xreply, xerr, xtick⟩ := x
            have a0 := hcl 0 (.int .i64 xc) rfl
            have a1 := hcl 1 (.int .i64 xn) rfl
            simp only [Nat.add_zero] at a0
            have b1 : W1.cell? ⟨eb, 1, none⟩ = some (.int .i64 ec) := ev_c HX.out 1 _ rfl
            have b2 : W1.cell? ⟨eb, 2, none⟩ = some (.int .i64 en) := ev_c HX.out 2 _ rfl
            unfold hit at hl1 hl2
            dsimp only at hl1 hl2
            clear hcl hx
            unfold hit
            obtain ⟨p1, hp1⟩ : ∃ p1, lst (fun s => decide (s.c = ec ∧ s.n = en)) xs j = p1 := ⟨_, rfl⟩
            obtain ⟨p2, hp2⟩ : ∃ p2, lst (fun s => decide (s.c = ec ∧ s.n = en - 1)) xs j = p2 := ⟨_, rfl⟩
            rw [hp1] at hl1 ⊢
            rw [hp2] at hl2 ⊢
            have HL1 := Lib.hid hl1
            have HL2 := Lib.hid hl2
            clear hl1 hl2 hp1 hp2
            by_cases hc1 : xc = ec
            · subst hc1
              by_cases hn1 : xn = en
              · subst hn1
                have hm1 : (xn == xn - 1) = false := by simp; omega
                go_upto_region 10 with fail
                go_quiet (fail)
                go_upto_region 12 with fail
                go_quiet (fail)
                go_wp2
                go_roundw
                case rel => exact ⟨j + 1, by omega, by go_num, by rw [HL1.out, if_pos (by simp)], by rw [HL2.out, if_neg (by simp; omega)], Lib.hid ⟨_, rfl⟩⟩
                case measure => simp [intOf]; omega
              · have hm0 : (xn == en) = false := by simp; exact hn1
                by_cases hn2 : xn = en - 1
                · have hm2 : (xn == en - 1) = true := by simp; exact hn2
                  have HN2 := Lib.hid hn2
                  clear hn2
                  go_upto_region 10 with fail
                  go_quiet (fail)
                  go_upto_region 12 with fail
                  go_quiet (fail)
                  go_wp2
                  go_roundw
                  case rel => exact ⟨j + 1, by omega, by go_num, by rw [HL1.out, if_neg (by simp; exact hn1)], by rw [HL2.out, if_pos (by simp; exact HN2.out)], Lib.hid ⟨_, rfl⟩⟩
                  case measure => simp [intOf]; omega
                · have hm2 : (xn == en - 1) = false := by simp; exact hn2
                  go_upto_region 10 with fail
                  go_quiet (fail)
                  go_upto_region 12 with fail
                  go_quiet (fail)
                  go_wp2
                  go_roundw
                  case rel => exact ⟨j + 1, by omega, by go_num, by rw [HL1.out, if_neg (by simp; exact hn1)], by rw [HL2.out, if_neg (by simp; exact hn2)], Lib.hid ⟨_, rfl⟩⟩
                  case measure => simp [intOf]; omega
            · have hm0 : (xc == ec) = false := by simp; exact hc1
              go_upto_region 10 with fail
              go_quiet (fail)
              go_upto_region 12 with fail
              go_quiet (fail)
              go_wp2
              go_roundw
              case rel => exact ⟨j + 1, by omega, by go_num, by rw [HL1.out, if_neg (by simp; exact fun h => absurd h hc1)], by rw [HL2.out, if_neg (by simp; exact fun h => absurd h hc1)], Lib.hid ⟨_, rfl⟩⟩
              case measure => simp [intOf]; omega
          · obtain rfl : j = L := by omega
            have hji : ¬ (j : Int) < (j : Int) := by omega
            have q1 := lst_all HH.out.un ec en
            have q2 := lst_all HH.out.un ec (en - 1)
            rw [HLL.out] at q1 q2
            rw [q1, q2]
            have HH2 := Lib.hid (HH.out.drewN d)
            have hX2 : Row (W1.drewN d) eb 85 (Hv.cells ⟨ek, ec, en, eerr, etick⟩).toArray := HX.out.drewN d
            clear q1 q2 HH HX hjl hjL
            generalize W1.drewN d = W2 at HH2 hX2 ⊢
            have x0 := ev_c hX2 0 _ rfl
            have x1 := ev_c hX2 1 _ rfl
            have x2 := ev_c hX2 2 _ rfl
            have x3 := ev_c hX2 3 _ rfl
            have x4 := ev_c hX2 4 _ rfl
            have x5 := ev_c hX2 5 _ rfl
            have x6 := ev_c hX2 6 _ rfl
            have x7 := ev_c hX2 7 _ rfl
            have x8 := ev_c hX2 8 _ rfl
            have x9 := ev_c hX2 9 _ rfl
            have x10 := ev_c hX2 10 _ rfl
            dsimp only at x0 x1 x2 x3 x4
            obtain ⟨ob, hC⟩ := HH2.out.hc
            have hsg := hC.sg
            rw [HLL.out] at hsg
            have HSG := Lib.hid hsg
            have HC2 := Lib.hid hC
            have HX2 := Lib.hid hX2
            clear hX2 hC hsg
            have hj30 : j ≤ 30 := by omega
            rename_i q1 q2 q3 q4 q5 q6 q7 q8 q9 q10 q11 q12 q13 q14 q15 q16 q17 q18 q19 q20 q21 q22 q23 q24 q25 q26 q27 q28 q29 q30 q31 q32 q33 q34 q35 q36 q37 q38 q39 q40 q41 q42 q43 q44 q45 q46 q47 q48 q49 q50 q51 q52 q53 q54 q55
            by_cases hk1 : ek = 1
            · revert i1 hi1 hy0 hy1 hy2 q1 w1 es q2 hcap hh9 N hh1 hN30 HEV R HR0 HN q3 q4 W0 wr u9 u10 u11 u12 u20 u21 u22 u23 u24 u25 u26 u27 u28 u29 u30 u31 u32 q5 q6 q7 q8 q9 q10 q11 q12 q13 q14 q15 q16 q17 q18 q19 q20 q21 q22 q23 q24 q25 q26 q27 q28 q29 q30 q31 q32 q33 q34 q35 q36 q37 q38 q39 q40 q41 q42 q43 q44 q45 q46 q47 q48 q49 u78 u79 u80 u81 u82 u83 u84 u85 u86 u87 u88 u89 u90 u91 u92 u93 u94 u95 u96 u97 u98 u99 u100 u101 u102 u103 u104 u105 u106 u107 u108 u109 u110 u111 u112 u113 u114 u115 u116 u117 u118 u119 u120 u121 u122 u123 u124 u125 u126 u127 u128 u129 u130 u131 u132 u133 u134 u135 u136 u137 u138 u139 u140 u141 u142 u143 u144 u145 u146 u147 u148 u149 u150 u151 u152 u153 u154 u155 u156 u157 u158 u159 u160 u161 u162 u163 u164 u165 u166 u167 u168 u169 u170 u171 u172 u173 u174 u175 u176 u177 u178 u179 u180 u181 u182 u183 u184 u185 u186 u187 u188 u189 k hkN xs hlt hki q50 oe g o HSP hg sA sc hs9 ek ec en eerr etick hec hen1 hen2 HR HD q51 q52 W1 eb u33 u34 u35 u36 u37 u38 u39 u40 u41 u42 u43 u44 u45 u46 u47 u48 u49 u50 u51 u52 u53 u54 u55 u56 u57 u58 u59 u60 u61 u62 u63 u64 u65 u66 u67 u68 u69 u70 u71 u72 u73 u74 u75 u76 u77 j d hxl hs1 HLL q53 q54 q55 hji W2 HH2 x0 x1 x2 x3 x4 x5 x6 x7 x8 x9 x10 ob HSG HC2 HX2 hj30 hk1
              exact g1.out
            · by_cases hk2 : ek = 2
              · revert i1 hi1 hy0 hy1 hy2 q1 w1 es q2 hcap hh9 N hh1 hN30 HEV R HR0 HN q3 q4 W0 wr u9 u10 u11 u12 u20 u21 u22 u23 u24 u25 u26 u27 u28 u29 u30 u31 u32 q5 q6 q7 q8 q9 q10 q11 q12 q13 q14 q15 q16 q17 q18 q19 q20 q21 q22 q23 q24 q25 q26 q27 q28 q29 q30 q31 q32 q33 q34 q35 q36 q37 q38 q39 q40 q41 q42 q43 q44 q45 q46 q47 q48 q49 u78 u79 u80 u81 u82 u83 u84 u85 u86 u87 u88 u89 u90 u91 u92 u93 u94 u95 u96 u97 u98 u99 u100 u101 u102 u103 u104 u105 u106 u107 u108 u109 u110 u111 u112 u113 u114 u115 u116 u117 u118 u119 u120 u121 u122 u123 u124 u125 u126 u127 u128 u129 u130 u131 u132 u133 u134 u135 u136 u137 u138 u139 u140 u141 u142 u143 u144 u145 u146 u147 u148 u149 u150 u151 u152 u153 u154 u155 u156 u157 u158 u159 u160 u161 u162 u163 u164 u165 u166 u167 u168 u169 u170 u171 u172 u173 u174 u175 u176 u177 u178 u179 u180 u181 u182 u183 u184 u185 u186 u187 u188 u189 k hkN xs hlt hki q50 oe g o HSP hg sA sc hs9 ek ec en eerr etick hec hen1 hen2 HR HD q51 q52 W1 eb u33 u34 u35 u36 u37 u38 u39 u40 u41 u42 u43 u44 u45 u46 u47 u48 u49 u50 u51 u52 u53 u54 u55 u56 u57 u58 u59 u60 u61 u62 u63 u64 u65 u66 u67 u68 u69 u70 u71 u72 u73 u74 u75 u76 u77 j d hxl hs1 HLL q53 q54 q55 hji W2 HH2 x0 x1 x2 x3 x4 x5 x6 x7 x8 x9 x10 ob HSG HC2 HX2 hj30 hk1 hk2
                exact g2.out
              · by_cases hk3 : ek = 3
                · revert i1 hi1 hy0 hy1 hy2 q1 w1 es q2 hcap hh9 N hh1 hN30 HEV R HR0 HN q3 q4 W0 wr u9 u10 u11 u12 u20 u21 u22 u23 u24 u25 u26 u27 u28 u29 u30 u31 u32 q5 q6 q7 q8 q9 q10 q11 q12 q13 q14 q15 q16 q17 q18 q19 q20 q21 q22 q23 q24 q25 q26 q27 q28 q29 q30 q31 q32 q33 q34 q35 q36 q37 q38 q39 q40 q41 q42 q43 q44 q45 q46 q47 q48 q49 u78 u79 u80 u81 u82 u83 u84 u85 u86 u87 u88 u89 u90 u91 u92 u93 u94 u95 u96 u97 u98 u99 u100 u101 u102 u103 u104 u105 u106 u107 u108 u109 u110 u111 u112 u113 u114 u115 u116 u117 u118 u119 u120 u121 u122 u123 u124 u125 u126 u127 u128 u129 u130 u131 u132 u133 u134 u135 u136 u137 u138 u139 u140 u141 u142 u143 u144 u145 u146 u147 u148 u149 u150 u151 u152 u153 u154 u155 u156 u157 u158 u159 u160 u161 u162 u163 u164 u165 u166 u167 u168 u169 u170 u171 u172 u173 u174 u175 u176 u177 u178 u179 u180 u181 u182 u183 u184 u185 u186 u187 u188 u189 k hkN xs hlt hki q50 oe g o HSP hg sA sc hs9 ek ec en eerr etick hec hen1 hen2 HR HD q51 q52 W1 eb u33 u34 u35 u36 u37 u38 u39 u40 u41 u42 u43 u44 u45 u46 u47 u48 u49 u50 u51 u52 u53 u54 u55 u56 u57 u58 u59 u60 u61 u62 u63 u64 u65 u66 u67 u68 u69 u70 u71 u72 u73 u74 u75 u76 u77 j d hxl hs1 HLL q53 q54 q55 hji W2 HH2 x0 x1 x2 x3 x4 x5 x6 x7 x8 x9 x10 ob HSG HC2 HX2 hj30 hk1 hk2 hk3
                  exact g3.out
                · revert i1 hi1 hy0 hy1 hy2 q1 w1 es q2 hcap hh9 N hh1 hN30 HEV R HR0 HN q3 q4 W0 wr u9 u10 u11 u12 u20 u21 u22 u23 u24 u25 u26 u27 u28 u29 u30 u31 u32 q5 q6 q7 q8 q9 q10 q11 q12 q13 q14 q15 q16 q17 q18 q19 q20 q21 q22 q23 q24 q25 q26 q27 q28 q29 q30 q31 q32 q33 q34 q35 q36 q37 q38 q39 q40 q41 q42 q43 q44 q45 q46 q47 q48 q49 u78 u79 u80 u81 u82 u83 u84 u85 u86 u87 u88 u89 u90 u91 u92 u93 u94 u95 u96 u97 u98 u99 u100 u101 u102 u103 u104 u105 u106 u107 u108 u109 u110 u111 u112 u113 u114 u115 u116 u117 u118 u119 u120 u121 u122 u123 u124 u125 u126 u127 u128 u129 u130 u131 u132 u133 u134 u135 u136 u137 u138 u139 u140 u141 u142 u143 u144 u145 u146 u147 u148 u149 u150 u151 u152 u153 u154 u155 u156 u157 u158 u159 u160 u161 u162 u163 u164 u165 u166 u167 u168 u169 u170 u171 u172 u173 u174 u175 u176 u177 u178 u179 u180 u181 u182 u183 u184 u185 u186 u187 u188 u189 k hkN xs hlt hki q50 oe g o HSP hg sA sc hs9 ek ec en eerr etick hec hen1 hen2 HR HD q51 q52 W1 eb u33 u34 u35 u36 u37 u38 u39 u40 u41 u42 u43 u44 u45 u46 u47 u48 u49 u50 u51 u52 u53 u54 u55 u56 u57 u58 u59 u60 u61 u62 u63 u64 u65 u66 u67 u68 u69 u70 u71 u72 u73 u74 u75 u76 u77 j d hxl hs1 HLL q53 q54 q55 hji W2 HH2 x0 x1 x2 x3 x4 x5 x6 x7 x8 x9 x10 ob HSG HC2 HX2 hj30 hk1 hk2 hk3
                  exact g4.out
      · have hki : (k : Int) < (N : Int) := by omega
        clear g1 g2 g3 g4
        have hR := hRf rfl
        have HBE := Lib.hid (show Below w.heap.size w wr from by obtain ⟨ob, hcc⟩ := hH.hc; exact hcc.be)
        have HRX := Lib.hid (show spansS es 0 [] = none from HR0.out.trans hR)
        clear hR hRt hRf hH
        go_wp2_with fail
        refine (HSP.out wr (Below.refl _ _)).mono ?_
        rintro en w2 hS
        rw [HRX.out] at hS
        rcases hS with ⟨ys, v', ob', h1, _⟩ | ⟨_, rfl, h4⟩
        · cases h1
        · have HB2 := Lib.hid (HBE.out.trans (h4.mono HBE.out.size))
          clear h4 HBE HSP
          go_wp2
          go_loopw [15] (fun v15 wx => v15 = .int .i64 0 ∧ wx = w2) (fun _ _ => 0)
          case atStart => exact ⟨rfl, rfl⟩
          case round =>
            obtain ⟨rfl, rfl⟩ := hrel
            go_wp2_with fail
            refine (awake_any _).mono ?_
            rintro e w3 ⟨rfl, hb3⟩
            go_wp2
            go_ret
            exact ⟨rfl, HB2.out.trans (hb3.mono HB2.out.size)⟩
      · have hki : ¬ (k : Int) < (k : Int) := by omega
        clear g1 g2 g3 g4
        have hR := hRf rfl
        have HBE := Lib.hid (show Below w.heap.size w wr from by obtain ⟨ob, hcc⟩ := hH.hc; exact hcc.be)
        have HRX := Lib.hid (show spansS es 0 [] = none from HR0.out.trans hR)
        clear hR hRt hRf hH
        go_wp2_with fail
        refine (HSP.out wr (Below.refl _ _)).mono ?_
        rintro en w2 hS
        rw [HRX.out] at hS
        rcases hS with ⟨ys, v', ob', h1, _⟩ | ⟨_, rfl, h4⟩
        · cases h1
        · have HB2 := Lib.hid (HBE.out.trans (h4.mono HBE.out.size))
          clear h4 HBE HSP
          go_wp2
          go_loopw [15] (fun v15 wx => v15 = .int .i64 0 ∧ wx = w2) (fun _ _ => 0)
          case atStart => exact ⟨rfl, rfl⟩
          case round =>
            obtain ⟨rfl, rfl⟩ := hrel
            go_wp2_with fail
            refine (awake_any _).mono ?_
            rintro e w3 ⟨rfl, hb3⟩
            go_wp2
            go_ret
            exact ⟨rfl, HB2.out.trans (hb3.mono HB2.out.size)⟩
      · have hki : ¬ (k : Int) < (k : Int) := by omega
        clear g1 g2 g3 g4
        obtain ⟨hR, hxl⟩ := hRt rfl
        have hdrop : es.drop k = [] := List.drop_of_length_le (by rw [HN.out]; exact Nat.le_refl _)
        rw [hdrop] at hR
        have HRX := Lib.hid (show spansS es 0 [] = some xs from HR0.out.trans hR.symm)
        obtain ⟨ob, hcc⟩ := hH.hc
        have HBE := Lib.hid hcc.be
        obtain ⟨sA, sc, rfl, hs1, hs2⟩ := hcc.sg.form
        have hs9 : sc ≤ 9223372036854775807 := by unfold maxLen at hs2; omega
        obtain ⟨L, hLl⟩ : ∃ L, xs.length = L := ⟨_, rfl⟩
        have hsg := hcc.sg
        rw [hLl] at hsg hs1 hxl ⊢
        have HSG := Lib.hid hsg
        have HLL := Lib.hid hLl
        clear hR hRt hRf hH hcc hsg hLl hdrop hs2
        go_wp2_with fail
        refine (HSP.out wr (Below.refl _ _)).mono ?_
        rintro en w2 hS
        rw [HRX.out] at hS
        rcases hS with ⟨ys, v', ob', h1, rfl, h2, h3, h4⟩ | ⟨h1, _⟩
        · injection h1 with h1
          subst h1
          rw [HLL.out] at h2
          obtain ⟨gA, gc, rfl, hg1, hg2⟩ := h2.form
          have hg9 : gc ≤ 9223372036854775807 := by unfold maxLen at hg2; omega
          have HG := Lib.hid h2
          have HS2 := Lib.hid (HSG.out.turns (Turns.of_below h4) (fun _ _ x => x))
          have HB2 := Lib.hid (HBE.out.trans (h4.mono HBE.out.size))
          clear h2 h3 h4 hg2 HSG HSP HBE
          go_wp2
          go_loopw [15] (fun v15 wx => ∃ q : Nat, q ≤ L ∧ v15 = .int .i64 q ∧ Hid (∃ d, wx = w2.drewN d)) (fun v15 _ => L - (intOf v15).toNat)
          case atStart => exact ⟨0, by omega, rfl, Lib.hid ⟨0, rfl⟩⟩
          case round =>
            obtain ⟨q, hqL, rfl, hD⟩ := hrel
            obtain ⟨d, rfl⟩ := hD.out
            clear hD
            by_cases hql : q < L
            · have hqi : (q : Int) < (L : Int) := by omega
              obtain ⟨x, hx⟩ : ∃ x, xs[q]? = some x := ⟨_, List.getElem?_eq_getElem (by rw [HLL.out]; exact hql)⟩
              obtain ⟨g1, o1, rfl, hgl1, hc1⟩ := ls_seg HG.out HLL.out.symm q x hx
              obtain ⟨g2, o2, rfl, hgl2, hc2⟩ := ls_seg HS2.out HLL.out.symm q x hx
              obtain ⟨xc, xn, xcall, xturn, xreply, xerr, xtick⟩ := x
              have a0 := hc1 0 (.int .i64 xc) rfl
              have a1 := hc1 1 (.int .i64 xn) rfl
              have a2 := hc1 2 (.int .i64 xcall) rfl
              have a3 := hc1 3 (.int .i64 xturn) rfl
              have a4 := hc1 4 (.int .i64 xreply) rfl
              have a5 := hc1 5 (.int .i64 xerr) rfl
              have a6 := hc1 6 (.int .i64 xtick) rfl
              have a7 := hc1 7 (.int .i64 0) rfl
              have a8 := hc1 8 (.int .i64 0) rfl
              have a9 := hc1 9 (.int .i64 0) rfl
              have a10 := hc1 10 (.int .i64 0) rfl
              have a11 := hc1 11 (.int .i64 0) rfl
              have a12 := hc1 12 (.int .i64 0) rfl
              have b0 := hc2 0 (.int .i64 xc) rfl
              have b1 := hc2 1 (.int .i64 xn) rfl
              have b2 := hc2 2 (.int .i64 xcall) rfl
              have b3 := hc2 3 (.int .i64 xturn) rfl
              have b4 := hc2 4 (.int .i64 xreply) rfl
              have b5 := hc2 5 (.int .i64 xerr) rfl
              have b6 := hc2 6 (.int .i64 xtick) rfl
              have b7 := hc2 7 (.int .i64 0) rfl
              have b8 := hc2 8 (.int .i64 0) rfl
              have b9 := hc2 9 (.int .i64 0) rfl
              have b10 := hc2 10 (.int .i64 0) rfl
              have b11 := hc2 11 (.int .i64 0) rfl
              have b12 := hc2 12 (.int .i64 0) rfl
              simp only [Nat.add_zero] at a0 b0
              have q6 := eq68
              clear hc1 hc2 hx
              go_upto_region 34 with fail
              go_quiet (fail)
              go_wp2
              go_roundw
              case rel => exact ⟨q + 1, by omega, by go_num, Lib.hid ⟨_, rfl⟩⟩
              case measure => simp [intOf]; omega
            · obtain rfl : q = L := by omega
              have hqi : ¬ (q : Int) < (q : Int) := by omega
              go_wp2_with fail
              refine (awake_any _).mono ?_
              rintro e w3 ⟨rfl, hb3⟩
              go_wp2
              go_ret
              exact ⟨rfl, (below_drewN HB2.out d).trans (hb3.mono (by have := HB2.out.size; simp; omega))⟩
        · cases h1
end Go.Proofs.Ytjnlpgmocngenaa.Hi
