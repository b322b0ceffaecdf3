/- check.elem. -/
import Derived.Test.YtopbildpeojgoaaCkE
import Derived.Test.YtopbildpeojgoaaSchB
namespace Go.Proofs.Ytopbildpeojgoaa.Ck
open Go.RowKit Go.Proofs.Ytopbildpeojgoaa Go.Proofs.Ytopbildpeojgoaa.Sch Go.Proofs.Ytopbildpeojgoaa.Ty
set_option linter.unusedVariables false
set_option maxRecDepth 100000
/-- What is wrong with an element first. -/
noncomputable def elemM (T : List Ty) (es : List Qe) (at' : Nat) (e : Qe) : Int :=
  if nameB e.v.data.toList = false ∨ e.ts.length = 0 ∨ 16 < e.ts.length then 1
  else if idx (es.map Qe.v) e.v < (at' : Int) then 4
  else if typesM T [] e.ts ≠ 0 then typesM T [] e.ts
  else if oftenM e.neg e.mn e.mx = false then 1
  else predM T (scopeM es at') e.pr
theorem elemM_ts {T : List Ty} {es : List Qe} {at' : Nat} {e : Qe} (h : elemM T es at' e = 0) : 0 < e.ts.length ∧ e.ts.length ≤ 1000 := by
  unfold elemM at h
  split at h
  · exact absurd h (by decide)
  · rename_i hn
    simp only [not_or] at hn
    omega
set_option maxHeartbeats 4000000 in
theorem elem_any (p : Option Addr) (T : List Ty) (v : Value) (win cap : Int) (es : List Qe) (at' : Nat) (w : World) (hs : Sc w w.heap.size p T) (hT : ∀ t ∈ T, t.2.length ≤ 1000000) (hq : Qs w w.heap.size v es) (hn : es.length ≤ 1000) (ha : at' < es.length) (h0 : ∀ i (h : i < es.length), i < at' → 0 < es[i].ts.length ∧ es[i].ts.length ≤ 1000) :
    Calls Try.prog 114 #[.pointer p, .agg #[v, .int .i64 win, .int .i64 cap], .int .i64 (at' : Int)] w fun e w' => e = .returned (.int .i64 (elemM T es at' es[at'])) ∧ Below w.heap.size w w' := by
  have HS := Lib.hid (fun X (h : Below w.heap.size w X) => hs.below h h.size)
  have HQ := Lib.hid (fun X (h : Below w.heap.size w X) => hq.below h h.size)
  have H0 := Lib.hid h0
  obtain ⟨A, c, rfl, hnc, hcm, h3⟩ := hq
  obtain ⟨g, o, tv, pv, rfl, hg, c0, c1, c2, c3, c4, c5, hsl, hns⟩ := h3 at' ha
  have HSL := Lib.hid (fun X (h : Below w.heap.size w X) => hsl.below h h.size)
  obtain ⟨e, he⟩ : ∃ e, es[at'] = e := ⟨_, rfl⟩
  have HE := Lib.hid he
  rw [he] at c0 c2 c3 c4 hsl hns HSL ⊢
  obtain ⟨ev, et, en, ea, eb, ep⟩ := e
  dsimp only at c0 c2 c3 c4 hsl hns HSL
  obtain ⟨tA, tc, rfl, _, _, _⟩ := hsl
  obtain ⟨pA, pc, rfl, _, _, _⟩ := hns
  have haz : (at' : Int) < (es.length : Int) := by omega
  obtain ⟨tl, htl⟩ : ∃ tl, et.length = tl := ⟨_, rfl⟩
  obtain ⟨pl, hpl⟩ : ∃ pl, ep.length = pl := ⟨_, rfl⟩
  rw [htl] at c1 HSL
  rw [hpl] at c5
  have HTL := Lib.hid htl
  obtain ⟨W, hW⟩ : ∃ W, (w.alloc (.cells #[.slice (some ⟨g, o, none⟩) es.length c, .int .i64 win, .int .i64 cap] 67)).alloc (.cells #[.string ev, .slice tA tl tc, .bool en, .int .i64 ea, .int .i64 eb, .slice pA pl pc] 73) = W := ⟨_, rfl⟩
  have hX : Below w.heap.size w W := by rw [← hW]; exact ((Below.refl _ w).alloc (Nat.le_refl _) _).alloc (by simp) _
  have HX := Lib.hid hX
  have R4 : Hid (Row W w.heap.size 67 #[.slice (some ⟨g, o, none⟩) es.length c, .int .i64 win, .int .i64 cap]) := Lib.hid (by rw [← hW]; exact (Row.made w _ _).alloc _)
  have R7 : Hid (Row W (w.heap.size + 1) 73 #[.string ev, .slice tA tl tc, .bool en, .int .i64 ea, .int .i64 eb, .slice pA pl pc]) := Lib.hid (by rw [← hW]; exact row_at (by simp) _ _)
  have d0 : W.cell? ⟨w.heap.size, 0, none⟩ = some (.slice (some ⟨g, o, none⟩) es.length c) := (R4.out.cell 0).trans rfl
  have d1 : W.cell? ⟨w.heap.size, 1, none⟩ = some (.int .i64 win) := (R4.out.cell 1).trans rfl
  have d2 : W.cell? ⟨w.heap.size, 2, none⟩ = some (.int .i64 cap) := (R4.out.cell 2).trans rfl
  have e0 : W.cell? ⟨w.heap.size + 1, 0, none⟩ = some (.string ev) := (R7.out.cell 0).trans rfl
  have e1 : W.cell? ⟨w.heap.size + 1, 1, none⟩ = some (.slice tA tl tc) := (R7.out.cell 1).trans rfl
  obtain ⟨nb, hnb⟩ : ∃ nb, nameB ev.data.toList = nb := ⟨_, rfl⟩
  have HNB := Lib.hid hnb
  have k0 : (w.alloc (.cells #[.slice (some ⟨g, o, none⟩) es.length c, .int .i64 win, .int .i64 cap] 67)).cell? ⟨g, o + at' * 6, none⟩ = some (.string ev) := Lib.cell?_alloc_some _ c0
  have k1 : (w.alloc (.cells #[.slice (some ⟨g, o, none⟩) es.length c, .int .i64 win, .int .i64 cap] 67)).cell? ⟨g, o + at' * 6 + 1, none⟩ = some (.slice tA tl tc) := Lib.cell?_alloc_some _ c1
  have k2 : (w.alloc (.cells #[.slice (some ⟨g, o, none⟩) es.length c, .int .i64 win, .int .i64 cap] 67)).cell? ⟨g, o + at' * 6 + 2, none⟩ = some (.bool en) := Lib.cell?_alloc_some _ c2
  have k3 : (w.alloc (.cells #[.slice (some ⟨g, o, none⟩) es.length c, .int .i64 win, .int .i64 cap] 67)).cell? ⟨g, o + at' * 6 + 3, none⟩ = some (.int .i64 ea) := Lib.cell?_alloc_some _ c3
  have k4 : (w.alloc (.cells #[.slice (some ⟨g, o, none⟩) es.length c, .int .i64 win, .int .i64 cap] 67)).cell? ⟨g, o + at' * 6 + 4, none⟩ = some (.int .i64 eb) := Lib.cell?_alloc_some _ c4
  have k5 : (w.alloc (.cells #[.slice (some ⟨g, o, none⟩) es.length c, .int .i64 win, .int .i64 cap] 67)).cell? ⟨g, o + at' * 6 + 5, none⟩ = some (.slice pA pl pc) := Lib.cell?_alloc_some _ c5
  obtain ⟨R, hR⟩ : ∃ R, elemM T es at' ⟨ev, et, en, ea, eb, ep⟩ = R := ⟨_, rfl⟩
  have HR := Lib.hid hR
  unfold elemM at HR
  dsimp only at HR
  rw [hR]
  clear h3 c0 c1 c2 c3 c4 c5 hX hs h0 he htl hpl hnb hR
  go_enter Try.func114, Try.ntmps114
  go_wp2_with fail
  refine (name_any ev W).mono ?_
  unfold NameP
  rintro e w1 ⟨rfl, rfl⟩
  rw [HNB.out]
  clear k0 k1 k2 k3 k4 k5
  cases nb with
  | false =>
    go_wp2
    go_ret
    exact ⟨by rw [← HR.out, if_pos (.inl HNB.out)]; rfl, HX.out⟩
  | true =>
    by_cases hz : tl = 0
    · subst hz
      go_wp2
      go_ret
      exact ⟨by rw [← HR.out, if_pos (.inr (.inl HTL.out))]; rfl, HX.out⟩
    · have hz1 : ((tl : Int) == 0) = false := by simp; omega
      by_cases h16 : 16 < tl
      · have h16' : (16 : Int) < (tl : Int) := by omega
        go_wp2
        go_ret
        exact ⟨by rw [← HR.out, if_pos (.inr (.inr (by rw [HTL.out]; exact h16)))]; rfl, HX.out⟩
      · have h16' : ¬ (16 : Int) < (tl : Int) := by omega
        have hR1 := HR.out
        rw [if_neg (by rw [HNB.out, HTL.out]; simp; omega)] at hR1
        have HR1 := Lib.hid hR1
        have HF := Lib.hid (find_any _ win cap es ev W (HQ.out _ HX.out))
        obtain ⟨fi, hfi⟩ : ∃ fi, idx (es.map Qe.v) ev = fi := ⟨_, rfl⟩
        rw [hfi] at HF HR1
        clear hR1 hfi
        go_wp2_with fail
        refine HF.out.mono ?_
        rintro e w2 ⟨rfl, hb2⟩
        have HB2 := Lib.hid (HX.out.trans (hb2.mono HX.out.size))
        have R42 := Lib.hid (Row.below R4.out hb2 R4.out.lt)
        have R72 := Lib.hid (Row.below R7.out hb2 R7.out.lt)
        clear hb2 d0 d1 d2 e0 e1 HF
        by_cases hlt : fi < (at' : Int)
        · go_wp2
          go_ret
          exact ⟨by rw [← HR1.out, if_pos hlt]; rfl, HB2.out⟩
        · have hR2 := HR1.out
          rw [if_neg hlt] at hR2
          have HR2 := Lib.hid hR2
          have HTY := types_any' p T (.slice tA tl tc) et w2 (HS.out _ HB2.out) hT (HSL.out _ HB2.out)
          obtain ⟨ty, hty⟩ : ∃ ty, typesM T [] et = ty := ⟨_, rfl⟩
          rw [hty] at HTY HR2
          have HTY := Lib.hid HTY
          have e1 : w2.cell? ⟨w.heap.size + 1, 1, none⟩ = some (.slice tA tl tc) := (R72.out.cell 1).trans rfl
          clear hR2 hty
          go_wp2_with fail
          refine HTY.out.mono ?_
          rintro e w3 ⟨rfl, hb3⟩
          have HB3 := Lib.hid (HB2.out.trans (hb3.mono HB2.out.size))
          have R43 := Lib.hid (Row.below R42.out hb3 R42.out.lt)
          have R73 := Lib.hid (Row.below R72.out hb3 R72.out.lt)
          clear hb3 e1 HTY
          by_cases ht0 : ty = 0
          · subst ht0
            have hR3 := HR2.out
            rw [if_neg (by decide)] at hR3
            have HR3 := Lib.hid hR3
            have f0 : w3.cell? ⟨w.heap.size + 1, 0, none⟩ = some (.string ev) := (R73.out.cell 0).trans rfl
            have f1 : w3.cell? ⟨w.heap.size + 1, 1, none⟩ = some (.slice tA tl tc) := (R73.out.cell 1).trans rfl
            have f2 : w3.cell? ⟨w.heap.size + 1, 2, none⟩ = some (.bool en) := (R73.out.cell 2).trans rfl
            have f3 : w3.cell? ⟨w.heap.size + 1, 3, none⟩ = some (.int .i64 ea) := (R73.out.cell 3).trans rfl
            have f4 : w3.cell? ⟨w.heap.size + 1, 4, none⟩ = some (.int .i64 eb) := (R73.out.cell 4).trans rfl
            have f5 : w3.cell? ⟨w.heap.size + 1, 5, none⟩ = some (.slice pA pl pc) := (R73.out.cell 5).trans rfl
            clear hR3
            go_wp2_with fail
            refine (often_any ev _ _ en ea eb w3).mono ?_
            rintro e w4 ⟨rfl, hb4⟩
            have HB4 := Lib.hid (HB3.out.trans (hb4.mono HB3.out.size))
            have R44 := Lib.hid (Row.below R43.out hb4 R43.out.lt)
            obtain ⟨ob, hob⟩ : ∃ ob, oftenM en ea eb = ob := ⟨_, rfl⟩
            rw [hob] at HR3 ⊢
            clear hb4 f0 f1 f2 f3 f4 f5 hob
            cases ob with
            | false =>
              go_wp2
              go_ret
              exact ⟨by rw [← (show (1 : Int) = R from HR3.out)]; rfl, HB4.out⟩
            | true =>
              have hR4 := HR3.out
              rw [if_neg (by decide)] at hR4
              have HR4 := Lib.hid hR4
              have hpr := pred_any p T _ win cap es at' w4 (HS.out _ HB4.out) (HQ.out _ HB4.out) hn ha (fun i hi hia => by
                rcases Nat.lt_or_ge i at' with h | h
                · exact H0.out i hi h
                · obtain rfl : i = at' := by omega
                  rw [HE.out]
                  show 0 < et.length ∧ et.length ≤ 1000
                  rw [HTL.out]
                  omega)
              rw [HE.out] at hpr
              have HPR := Lib.hid hpr
              have d0 : w4.cell? ⟨w.heap.size, 0, none⟩ = some (.slice (some ⟨g, o, none⟩) es.length c) := (R44.out.cell 0).trans rfl
              have d1 : w4.cell? ⟨w.heap.size, 1, none⟩ = some (.int .i64 win) := (R44.out.cell 1).trans rfl
              have d2 : w4.cell? ⟨w.heap.size, 2, none⟩ = some (.int .i64 cap) := (R44.out.cell 2).trans rfl
              clear hpr hR4
              go_wp2_with fail
              refine HPR.out.mono ?_
              rintro e w5 ⟨rfl, hb5⟩
              have HB5 := Lib.hid (HB4.out.trans (hb5.mono HB4.out.size))
              rw [HR4.out]
              clear hb5 d0 d1 d2
              go_wp2
              go_ret
              exact ⟨rfl, HB5.out⟩
          · have ht0' : (ty == 0) = false := by simpa using ht0
            go_wp2
            go_ret
            exact ⟨by rw [← HR2.out, if_pos ht0]; rfl, HB3.out⟩
end Go.Proofs.Ytopbildpeojgoaa.Ck
