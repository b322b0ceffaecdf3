/- The walk of the law HistSpans: calls that are done. -/
import Derived.Test.YtjnlpgmocngenaaHiO
namespace Go.Proofs.Ytjnlpgmocngenaa.Hi
open Go.RowKit Go.Proofs.Ytjnlpgmocngenaa Go.Maps
set_option linter.unusedVariables false
set_option maxRecDepth 100000
set_option maxHeartbeats 8000000 in
theorem part1_g2 (A : Option Addr) (n c : Nat) (f : Nat → Int) (hn : n ≤ c) (hc : c ≤ 9223372036854775807) (hf : Hid (∀ k, -9223372036854775808 ≤ f k ∧ f k ≤ 9223372036854775807)) (w : World) (hl : Hid (Lies w w.heap.size A n (fun k => .int .i64 (f k)))) (od : Int) (hod : Hid (-9223372036854775808 ≤ od ∧ od ≤ 9223372036854775807)) :
    (part1 A n c f hn hc hf w hl od hod).G2 := by
  delta part1
  intro i1 hi1 hy0 hy1 hy2 q1 w1 es q2 hcap hh9 N hh1 hN30 HEV R HR0 HN q3 q4 W0 wr u9 u10 u11 u12 u20 u21 u22 u23 u24 u25 u26 u27 u28 u29 u30 u31 u32 q5 q6 q7 q8 q9 q10 q11 q12 q13 q14 q15 q16 q17 q18 q19 q20 q21 q22 q23 q24 q25 q26 q27 q28 q29 q30 q31 q32 q33 q34 q35 q36 q37 q38 q39 q40 q41 q42 q43 q44 q45 q46 q47 q48 q49 u78 u79 u80 u81 u82 u83 u84 u85 u86 u87 u88 u89 u90 u91 u92 u93 u94 u95 u96 u97 u98 u99 u100 u101 u102 u103 u104 u105 u106 u107 u108 u109 u110 u111 u112 u113 u114 u115 u116 u117 u118 u119 u120 u121 u122 u123 u124 u125 u126 u127 u128 u129 u130 u131 u132 u133 u134 u135 u136 u137 u138 u139 u140 u141 u142 u143 u144 u145 u146 u147 u148 u149 u150 u151 u152 u153 u154 u155 u156 u157 u158 u159 u160 u161 u162 u163 u164 u165 u166 u167 u168 u169 u170 u171 u172 u173 u174 u175 u176 u177 u178 u179 u180 u181 u182 u183 u184 u185 u186 u187 u188 u189 k hkN xs hlt hki q50 oe g o HSP hg sA sc hs9 ek ec en eerr etick hec hen1 hen2 HR HD q51 q52 W1 eb u33 u34 u35 u36 u37 u38 u39 u40 u41 u42 u43 u44 u45 u46 u47 u48 u49 u50 u51 u52 u53 u54 u55 u56 u57 u58 u59 u60 u61 u62 u63 u64 u65 u66 u67 u68 u69 u70 u71 u72 u73 u74 u75 u76 u77 j d hxl hs1 HLL q53 q54 q55 hji W2 HH2 x0 x1 x2 x3 x4 x5 x6 x7 x8 x9 x10 ob HSG HC2 HX2 hj30 hk1 hk2
  subst hk2
  cases hf : fnd xs ec en with
  | none =>
    rw [fndI_none hf]
    have hnote := note2_none (a := (k : Int)) (e := eerr) (t := etick) hf
    have HNT := Lib.hid hnote
    clear hnote
    go_wp2
    go_roundw
    case rel => exact ⟨k + 1, false, by omega, by go_num, rfl, Lib.hid (lp_no HH2.out HNT.out HD.out HR.out)⟩
    case measure => simp [intOf]; omega
  | some i =>
    rw [fndI_some hf]
    obtain ⟨x, hx, _⟩ := fnd_get hf
    obtain ⟨g2, o2, cap2, hv2, hg2, hc1, hc2, hcl, hfz, hcc⟩ := HH2.out.at hx
    rw [HLL.out] at hv2 hc1
    injection hv2 with e1 _ e3
    subst e1 e3
    have hil : i < j := by have := (List.getElem?_eq_some_iff.1 hx).1; rw [HLL.out] at this; exact this
    have hii : (i : Int) < (j : Int) := by omega
    have y3 := hcl 3 (.int .i64 x.turn) rfl
    have y4 := hcl 4 (.int .i64 x.reply) rfl
    have c5 := hcl 5 (.int .i64 x.err) rfl
    have c6 := hcl 6 (.int .i64 x.tick) rfl
    have c7 := hcl 7 (.int .i64 0) rfl
    have c8 := hcl 8 (.int .i64 0) rfl
    have c9 := hcl 9 (.int .i64 0) rfl
    have c10 := hcl 10 (.int .i64 0) rfl
    have c11 := hcl 11 (.int .i64 0) rfl
    have c12 := hcl 12 (.int .i64 0) rfl
    have z := fun q => hfz (o2 + i * 13 + q)
    have zA := z 3
    have z5 := z 5
    have z6 := z 6
    have z7 := z 7
    have z8 := z 8
    have z9 := z 9
    have z10 := z 10
    have z11 := z 11
    have z12 := z 12
    have hne : g2 ≠ eb := fun e => by
      obtain ⟨c', hr'⟩ := seg_row hcc.sg
      exact row_ne hr' HX2.out (by decide) e
    have hne2 : eb ≠ g2 := fun e => hne e.symm
    obtain ⟨xt, hxt⟩ : ∃ xt, x.turn = xt := ⟨_, rfl⟩
    obtain ⟨xr, hxr⟩ : ∃ xr, x.reply = xr := ⟨_, rfl⟩
    obtain ⟨xe, hxe⟩ : ∃ xe, x.err = xe := ⟨_, rfl⟩
    obtain ⟨xk, hxk⟩ : ∃ xk, x.tick = xk := ⟨_, rfl⟩
    rw [hxt] at y3
    rw [hxr] at y4
    rw [hxe] at c5
    rw [hxk] at c6
    have hcc' := hcc
    rw [← HLL.out] at hcc'
    have hP := hput9 hcc' HH2.out.un hx 3 (.inl rfl) (k : Int) eerr etick (.inl ⟨rfl, rfl⟩)
    rw [HLL.out] at hP
    have HP := Lib.hid hP
    have HX := Lib.hid hx
    have HXT := Lib.hid hxt
    have HXR := Lib.hid hxr
    have HXE := Lib.hid hxe
    have HXK := Lib.hid hxk
    clear hcl hfz z hx hcc hcc' hxt hxr hxe hxk hP
    by_cases ht0 : xt < 0
    · have hdt : decide (xt < 0) = true := decide_eq_true ht0
      by_cases hr0 : xr < 0
      · have hdr : decide (xr < 0) = true := decide_eq_true hr0
        have HNT := Lib.hid (note2_yes (a := (k : Int)) (e := eerr) (t := etick) hf HX.out ⟨by rw [HXT.out]; exact ht0, by rw [HXR.out]; exact hr0⟩)
        go_wp2
        go_region
        all_goals
          go_wp2
          go_roundw
          case rel => exact ⟨k + 1, true, by omega, by go_num, rfl, Lib.hid (lp_yes (Hs.drewN HP.out _) HNT.out HD.out HR.out (by rw [HLL.out]; exact hxl))⟩
          case measure => simp [intOf]; omega
      · have hdr : decide (xr < 0) = false := decide_eq_false hr0
        have HNT := Lib.hid (note2_no (a := (k : Int)) (e := eerr) (t := etick) hf HX.out (fun h => hr0 (by rw [← HXR.out]; exact h.2)))
        go_wp2
        go_roundw
        case rel => exact ⟨k + 1, false, by omega, by go_num, rfl, Lib.hid (lp_no HH2.out HNT.out HD.out HR.out)⟩
        case measure => simp [intOf]; omega
    · have hdt : decide (xt < 0) = false := decide_eq_false ht0
      have HNT := Lib.hid (note2_no (a := (k : Int)) (e := eerr) (t := etick) hf HX.out (fun h => ht0 (by rw [← HXT.out]; exact h.1)))
      go_wp2
      go_roundw
      case rel => exact ⟨k + 1, false, by omega, by go_num, rfl, Lib.hid (lp_no HH2.out HNT.out HD.out HR.out)⟩
      case measure => simp [intOf]; omega
set_option maxHeartbeats 8000000 in
theorem part1_g4 (A : Option Addr) (n c : Nat) (f : Nat → Int) (hn : n ≤ c) (hc : c ≤ 9223372036854775807) (hf : Hid (∀ k, -9223372036854775808 ≤ f k ∧ f k ≤ 9223372036854775807)) (w : World) (hl : Hid (Lies w w.heap.size A n (fun k => .int .i64 (f k)))) (od : Int) (hod : Hid (-9223372036854775808 ≤ od ∧ od ≤ 9223372036854775807)) :
    (part1 A n c f hn hc hf w hl od hod).G4 := by
  delta part1
  intro i1 hi1 hy0 hy1 hy2 q1 w1 es q2 hcap hh9 N hh1 hN30 HEV R HR0 HN q3 q4 W0 wr u9 u10 u11 u12 u20 u21 u22 u23 u24 u25 u26 u27 u28 u29 u30 u31 u32 q5 q6 q7 q8 q9 q10 q11 q12 q13 q14 q15 q16 q17 q18 q19 q20 q21 q22 q23 q24 q25 q26 q27 q28 q29 q30 q31 q32 q33 q34 q35 q36 q37 q38 q39 q40 q41 q42 q43 q44 q45 q46 q47 q48 q49 u78 u79 u80 u81 u82 u83 u84 u85 u86 u87 u88 u89 u90 u91 u92 u93 u94 u95 u96 u97 u98 u99 u100 u101 u102 u103 u104 u105 u106 u107 u108 u109 u110 u111 u112 u113 u114 u115 u116 u117 u118 u119 u120 u121 u122 u123 u124 u125 u126 u127 u128 u129 u130 u131 u132 u133 u134 u135 u136 u137 u138 u139 u140 u141 u142 u143 u144 u145 u146 u147 u148 u149 u150 u151 u152 u153 u154 u155 u156 u157 u158 u159 u160 u161 u162 u163 u164 u165 u166 u167 u168 u169 u170 u171 u172 u173 u174 u175 u176 u177 u178 u179 u180 u181 u182 u183 u184 u185 u186 u187 u188 u189 k hkN xs hlt hki q50 oe g o HSP hg sA sc hs9 ek ec en eerr etick hec hen1 hen2 HR HD q51 q52 W1 eb u33 u34 u35 u36 u37 u38 u39 u40 u41 u42 u43 u44 u45 u46 u47 u48 u49 u50 u51 u52 u53 u54 u55 u56 u57 u58 u59 u60 u61 u62 u63 u64 u65 u66 u67 u68 u69 u70 u71 u72 u73 u74 u75 u76 u77 j d hxl hs1 HLL q53 q54 q55 hji W2 HH2 x0 x1 x2 x3 x4 x5 x6 x7 x8 x9 x10 ob HSG HC2 HX2 hj30 hk1 hk2 hk3
  have hb1 : (ek == 1) = false := by simp; exact hk1
  have hb2 : (ek == 2) = false := by simp; exact hk2
  have hb3 : (ek == 3) = false := by simp; exact hk3
  have hnote := note_other (xs := xs) (a := (k : Int)) (c := ec) (n := en) (e := eerr) (t := etick) hk1 hk2 hk3
  have HNT := Lib.hid hnote
  clear hnote
  go_wp2
  go_roundw
  case rel => exact ⟨k + 1, false, by omega, by go_num, rfl, Lib.hid (lp_no HH2.out HNT.out HD.out HR.out)⟩
  case measure => simp [intOf]; omega
end Go.Proofs.Ytjnlpgmocngenaa.Hi
