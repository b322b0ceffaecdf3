/- Texts put together: CkE, CkF, CkG. -/
import Derived.Test.YtopbildpeojgoaaCkB
import Derived.Test.YtopbildpeojgoaaCkD
import Derived.Test.YtopbildpeojgoaaEvlJ3
import Derived.Test.YtopbildpeojgoaaTyJ
import Derived.Test.YtopbildpeojgoaaSchB
section
namespace Go.Proofs.Ytopbildpeojgoaa.Ck
open Go.RowKit Go.Proofs.Ytopbildpeojgoaa Go.Proofs.Ytopbildpeojgoaa.Sch Go.Proofs.Ytopbildpeojgoaa.Ty
set_option linter.unusedVariables false
set_option maxRecDepth 100000
/-- How often an element can be there. -/
def oftenM (neg : Bool) (mn mx : Int) : Bool := if neg then decide (mn = 1 ∧ mx = 1) else decide (1 ≤ mn ∧ mn ≤ mx ∧ mx ≤ 4)
theorem often_any (v : ByteArray) (tv pv : Value) (neg : Bool) (mn mx : Int) (w : World) : Calls Try.prog 164 #[.agg #[.string v, tv, .bool neg, .int .i64 mn, .int .i64 mx, pv]] w fun e w' => e = .returned (.bool (oftenM neg mn mx)) ∧ Below w.heap.size w w' := by
  have hX : Below w.heap.size w (w.alloc (.cells #[.string v, tv, .bool neg, .int .i64 mn, .int .i64 mx, pv] 73)) := (Below.refl _ w).alloc (Nat.le_refl _) _
  cases neg with
  | true =>
    by_cases h1 : mn = 1
    · subst h1
      by_cases h2 : mx = 1
      · subst h2
        go_enter Try.func164, Try.ntmps164
        go_wp2
        go_ret
        exact ⟨rfl, hX⟩
      · have h2' : (mx == 1) = false := by simpa using h2
        go_enter Try.func164, Try.ntmps164
        go_wp2
        go_ret
        exact ⟨by show Ending.returned (.bool false) = _; simp [oftenM, h2], hX⟩
    · have h1' : (mn == 1) = false := by simpa using h1
      go_enter Try.func164, Try.ntmps164
      go_wp2
      go_ret
      exact ⟨by show Ending.returned (.bool false) = _; simp [oftenM, h1], hX⟩
  | false =>
    by_cases h1 : 1 ≤ mn
    · by_cases h2 : mn ≤ mx
      · by_cases h3 : mx ≤ 4
        · go_enter Try.func164, Try.ntmps164
          go_wp2
          go_ret
          exact ⟨by show Ending.returned (.bool true) = _; simp [oftenM, h1, h2, h3], hX⟩
        · go_enter Try.func164, Try.ntmps164
          go_wp2
          go_ret
          exact ⟨by show Ending.returned (.bool false) = _; simp [oftenM, h1, h2, h3], hX⟩
      · go_enter Try.func164, Try.ntmps164
        go_wp2
        go_ret
        exact ⟨by show Ending.returned (.bool false) = _; simp [oftenM]; intros; omega, hX⟩
    · go_enter Try.func164, Try.ntmps164
      go_wp2
      go_ret
      exact ⟨by show Ending.returned (.bool false) = _; simp [oftenM]; intros; omega, hX⟩
open Classical in
/-- The kind of any parts, and what is wrong. -/
noncomputable def kindQ (T : List Ty) (bs : List Bd) (l : List Nd) : Int × Int := if Ty.Good l then kindS T bs l [] else (0, 1)
theorem kindq_any (p : Option Addr) (T : List Ty) (sv : Value) (bs : List Bd) (v : Value) (l : List Nd) (w : World) (hs : Sc w w.heap.size p T) (hb : Bs w w.heap.size sv bs) (hl : Ns w w.heap.size v l) :
    Calls Try.prog 204 #[.pointer p, sv, v] w (KPost w (kindQ T bs l)) := by
  by_cases hg : Ty.Good l
  · rw [show kindQ T bs l = kindS T bs l [] from by unfold kindQ; rw [if_pos hg]]
    exact kind_any p T sv bs v l w hs hb hl hg
  · rw [show kindQ T bs l = (0, 1) from by unfold kindQ; rw [if_neg hg]]
    have HM := Lib.hid ((Evl.tmay_any v l w hl).mono fun _ _ h => Evl.false_of h hg)
    obtain ⟨bA, bc, rfl, _, _, _⟩ := hb
    obtain ⟨A, c, rfl, _, _, _⟩ := hl
    clear hs hg
    unfold KPost
    go_enter Try.func204, Try.ntmps204
    go_wp2_with fail
    refine HM.out.mono ?_
    rintro e w1 ⟨rfl, hb1⟩
    have HB := Lib.hid hb1
    clear hb1
    go_wp2
    go_ret2
    exact ⟨rfl, HB.out⟩
/-- What is wrong with an element's predicate. -/
noncomputable def predM (T : List Ty) (bs : List Bd) (l : List Nd) : Int := if l.length = 0 then 0 else if (kindQ T bs l).2 = 0 ∧ (kindQ T bs l).1 ≠ 3 then 10 else (kindQ T bs l).2
set_option maxHeartbeats 2000000 in
theorem pred_any (p : Option Addr) (T : List Ty) (v : Value) (win cap : Int) (es : List Qe) (at' : Nat) (w : World) (hs : Sc w w.heap.size p T) (hq : Qs w w.heap.size v es) (hn : es.length ≤ 1000) (ha : at' < es.length) (h0 : ∀ i (h : i < es.length), i ≤ at' → 0 < es[i].ts.length ∧ es[i].ts.length ≤ 1000) :
    Calls Try.prog 165 #[.pointer p, .agg #[v, .int .i64 win, .int .i64 cap], .int .i64 (at' : Int)] w fun e w' => e = .returned (.int .i64 (predM T (scopeM es at') es[at'].pr)) ∧ Below w.heap.size w w' := by
  have hX : Below w.heap.size w (w.alloc (.cells #[v, .int .i64 win, .int .i64 cap] 67)) := (Below.refl _ w).alloc (Nat.le_refl _) _
  have HX := Lib.hid hX
  have HS := Lib.hid (hs.below hX hX.size)
  have HSC := Lib.hid (scope_any v win cap es at' (w.alloc (.cells #[v, .int .i64 win, .int .i64 cap] 67)) (hq.below hX hX.size) hn ha h0)
  have HQ := Lib.hid (hq.below hX hX.size)
  obtain ⟨A, c, rfl, hnc, hcm, h3⟩ := hq
  obtain ⟨g, o, tv, pv, rfl, hg, c0, c1, c2, c3, c4, c5, hsl, hns⟩ := h3 at' ha
  have HNS := Lib.hid (hns.below hX hX.size)
  obtain ⟨L, hL⟩ : ∃ L, es[at'].pr = L := ⟨_, rfl⟩
  rw [hL] at HNS hns ⊢
  obtain ⟨tA, tc, rfl, _, _, _⟩ := hsl
  obtain ⟨pA, pc, rfl, _, _, _⟩ := hns
  obtain ⟨bs, hbs⟩ : ∃ bs, scopeM es at' = bs := ⟨_, rfl⟩
  rw [hbs] at HSC ⊢
  have haz : (at' : Int) < (es.length : Int) := by omega
  have k5 : (w.alloc (.cells #[.slice (some ⟨g, o, none⟩) es.length c, .int .i64 win, .int .i64 cap] 67)).cell? ⟨g, o + at' * 6 + 5, none⟩ = some (.slice pA L.length pc) := Lib.cell?_alloc_some _ c5
  obtain ⟨m, hm⟩ : ∃ m, L.length = m := ⟨_, rfl⟩
  have HM := Lib.hid hm
  clear h3 c0 c1 c2 c3 c4 c5 hX hs h0 hL hbs
  by_cases hz : m = 0
  · subst hz
    rw [hm] at k5
    clear hm
    go_enter Try.func165, Try.ntmps165
    go_wp2
    go_ret
    exact ⟨by unfold predM; rw [if_pos HM.out]; rfl, HX.out⟩
  · have hz1 : ((m : Int) == 0) = false := by simp; omega
    rw [hm] at k5
    clear hm
    go_enter Try.func165, Try.ntmps165
    go_wp2_with fail
    refine HSC.out.mono ?_
    rintro e w1 ⟨u, rfl, hbs, hb1⟩
    have hk := kindq_any p T u bs _ L w1 (HS.out.below hb1 hb1.size) hbs (HNS.out.below hb1 hb1.size)
    rw [HM.out] at hk
    have HK := Lib.hid hk
    have HB1 := Lib.hid (HX.out.trans (hb1.mono HX.out.size))
    obtain ⟨uA, uc, rfl, _, _, _⟩ := hbs
    clear hk hb1 k5
    go_wp2_with fail
    refine HK.out.mono ?_
    unfold KPost
    rintro e w2 ⟨rfl, hb2⟩
    have HB2 := Lib.hid (HB1.out.trans (hb2.mono HB1.out.size))
    clear hb2
    obtain ⟨⟨r1, r2⟩, hr⟩ : ∃ r, kindQ T bs L = r := ⟨_, rfl⟩
    have HR := Lib.hid hr
    rw [hr]
    clear hr HK
    dsimp only
    by_cases h2 : r2 = 0
    · subst h2
      by_cases h1 : r1 = 3
      · subst h1
        go_wp2
        go_ret
        exact ⟨by unfold predM; rw [if_neg (by rw [HM.out]; exact hz), HR.out]; rfl, HB2.out⟩
      · have h1' : (r1 != 3) = true := by simpa using h1
        have h1'' : (r1 == 3) = false := by simpa using h1
        go_wp2
        go_ret
        exact ⟨by unfold predM; rw [if_neg (by rw [HM.out]; exact hz), HR.out]; dsimp only; rw [if_pos ⟨rfl, h1⟩]; rfl, HB2.out⟩
    · have h2' : (r2 == 0) = false := by simpa using h2
      go_wp2
      go_ret
      exact ⟨by unfold predM; rw [if_neg (by rw [HM.out]; exact hz), HR.out]; simp only; rw [if_neg (fun x => h2 x.1)]; rfl, HB2.out⟩
end Go.Proofs.Ytopbildpeojgoaa.Ck
end

section
namespace Go.Proofs.Ytopbildpeojgoaa.Ck
open Go.RowKit Go.Proofs.Ytopbildpeojgoaa Go.Proofs.Ytopbildpeojgoaa.Sch Go.Proofs.Ytopbildpeojgoaa.Ty
set_option linter.unusedVariables false
set_option maxRecDepth 100000
/-- What is wrong with an element first. -/
noncomputable def elemM (T : List Ty) (es : List Qe) (at' : Nat) (e : Qe) : Int :=
  if nameB e.v.data.toList = false ∨ e.ts.length = 0 ∨ 16 < e.ts.length then 1
  else if idx (es.map Qe.v) e.v < (at' : Int) then 4
  else if typesM T [] e.ts ≠ 0 then typesM T [] e.ts
  else if oftenM e.neg e.mn e.mx = false then 1
  else predM T (scopeM es at') e.pr
theorem elemM_ts {T : List Ty} {es : List Qe} {at' : Nat} {e : Qe} (h : elemM T es at' e = 0) : 0 < e.ts.length ∧ e.ts.length ≤ 1000 := by
  unfold elemM at h
  split at h
  · exact absurd h (by decide)
  · rename_i hn
    simp only [not_or] at hn
    omega
set_option maxHeartbeats 4000000 in
theorem elem_any (p : Option Addr) (T : List Ty) (v : Value) (win cap : Int) (es : List Qe) (at' : Nat) (w : World) (hs : Sc w w.heap.size p T) (hT : ∀ t ∈ T, t.2.length ≤ 1000000) (hq : Qs w w.heap.size v es) (hn : es.length ≤ 1000) (ha : at' < es.length) (h0 : ∀ i (h : i < es.length), i < at' → 0 < es[i].ts.length ∧ es[i].ts.length ≤ 1000) :
    Calls Try.prog 114 #[.pointer p, .agg #[v, .int .i64 win, .int .i64 cap], .int .i64 (at' : Int)] w fun e w' => e = .returned (.int .i64 (elemM T es at' es[at'])) ∧ Below w.heap.size w w' := by
  have HS := Lib.hid (fun X (h : Below w.heap.size w X) => hs.below h h.size)
  have HQ := Lib.hid (fun X (h : Below w.heap.size w X) => hq.below h h.size)
  have H0 := Lib.hid h0
  obtain ⟨A, c, rfl, hnc, hcm, h3⟩ := hq
  obtain ⟨g, o, tv, pv, rfl, hg, c0, c1, c2, c3, c4, c5, hsl, hns⟩ := h3 at' ha
  have HSL := Lib.hid (fun X (h : Below w.heap.size w X) => hsl.below h h.size)
  obtain ⟨e, he⟩ : ∃ e, es[at'] = e := ⟨_, rfl⟩
  have HE := Lib.hid he
  rw [he] at c0 c2 c3 c4 hsl hns HSL ⊢
  obtain ⟨ev, et, en, ea, eb, ep⟩ := e
  dsimp only at c0 c2 c3 c4 hsl hns HSL
  obtain ⟨tA, tc, rfl, _, _, _⟩ := hsl
  obtain ⟨pA, pc, rfl, _, _, _⟩ := hns
  have haz : (at' : Int) < (es.length : Int) := by omega
  obtain ⟨tl, htl⟩ : ∃ tl, et.length = tl := ⟨_, rfl⟩
  obtain ⟨pl, hpl⟩ : ∃ pl, ep.length = pl := ⟨_, rfl⟩
  rw [htl] at c1 HSL
  rw [hpl] at c5
  have HTL := Lib.hid htl
  obtain ⟨W, hW⟩ : ∃ W, (w.alloc (.cells #[.slice (some ⟨g, o, none⟩) es.length c, .int .i64 win, .int .i64 cap] 67)).alloc (.cells #[.string ev, .slice tA tl tc, .bool en, .int .i64 ea, .int .i64 eb, .slice pA pl pc] 73) = W := ⟨_, rfl⟩
  have hX : Below w.heap.size w W := by rw [← hW]; exact ((Below.refl _ w).alloc (Nat.le_refl _) _).alloc (by simp) _
  have HX := Lib.hid hX
  have R4 : Hid (Row W w.heap.size 67 #[.slice (some ⟨g, o, none⟩) es.length c, .int .i64 win, .int .i64 cap]) := Lib.hid (by rw [← hW]; exact (Row.made w _ _).alloc _)
  have R7 : Hid (Row W (w.heap.size + 1) 73 #[.string ev, .slice tA tl tc, .bool en, .int .i64 ea, .int .i64 eb, .slice pA pl pc]) := Lib.hid (by rw [← hW]; exact row_at (by simp) _ _)
  have d0 : W.cell? ⟨w.heap.size, 0, none⟩ = some (.slice (some ⟨g, o, none⟩) es.length c) := (R4.out.cell 0).trans rfl
  have d1 : W.cell? ⟨w.heap.size, 1, none⟩ = some (.int .i64 win) := (R4.out.cell 1).trans rfl
  have d2 : W.cell? ⟨w.heap.size, 2, none⟩ = some (.int .i64 cap) := (R4.out.cell 2).trans rfl
  have e0 : W.cell? ⟨w.heap.size + 1, 0, none⟩ = some (.string ev) := (R7.out.cell 0).trans rfl
  have e1 : W.cell? ⟨w.heap.size + 1, 1, none⟩ = some (.slice tA tl tc) := (R7.out.cell 1).trans rfl
  obtain ⟨nb, hnb⟩ : ∃ nb, nameB ev.data.toList = nb := ⟨_, rfl⟩
  have HNB := Lib.hid hnb
  have k0 : (w.alloc (.cells #[.slice (some ⟨g, o, none⟩) es.length c, .int .i64 win, .int .i64 cap] 67)).cell? ⟨g, o + at' * 6, none⟩ = some (.string ev) := Lib.cell?_alloc_some _ c0
  have k1 : (w.alloc (.cells #[.slice (some ⟨g, o, none⟩) es.length c, .int .i64 win, .int .i64 cap] 67)).cell? ⟨g, o + at' * 6 + 1, none⟩ = some (.slice tA tl tc) := Lib.cell?_alloc_some _ c1
  have k2 : (w.alloc (.cells #[.slice (some ⟨g, o, none⟩) es.length c, .int .i64 win, .int .i64 cap] 67)).cell? ⟨g, o + at' * 6 + 2, none⟩ = some (.bool en) := Lib.cell?_alloc_some _ c2
  have k3 : (w.alloc (.cells #[.slice (some ⟨g, o, none⟩) es.length c, .int .i64 win, .int .i64 cap] 67)).cell? ⟨g, o + at' * 6 + 3, none⟩ = some (.int .i64 ea) := Lib.cell?_alloc_some _ c3
  have k4 : (w.alloc (.cells #[.slice (some ⟨g, o, none⟩) es.length c, .int .i64 win, .int .i64 cap] 67)).cell? ⟨g, o + at' * 6 + 4, none⟩ = some (.int .i64 eb) := Lib.cell?_alloc_some _ c4
  have k5 : (w.alloc (.cells #[.slice (some ⟨g, o, none⟩) es.length c, .int .i64 win, .int .i64 cap] 67)).cell? ⟨g, o + at' * 6 + 5, none⟩ = some (.slice pA pl pc) := Lib.cell?_alloc_some _ c5
  obtain ⟨R, hR⟩ : ∃ R, elemM T es at' ⟨ev, et, en, ea, eb, ep⟩ = R := ⟨_, rfl⟩
  have HR := Lib.hid hR
  unfold elemM at HR
  dsimp only at HR
  rw [hR]
  clear h3 c0 c1 c2 c3 c4 c5 hX hs h0 he htl hpl hnb hR
  go_enter Try.func114, Try.ntmps114
  go_wp2_with fail
  refine (name_any ev W).mono ?_
  unfold NameP
  rintro e w1 ⟨rfl, rfl⟩
  rw [HNB.out]
  clear k0 k1 k2 k3 k4 k5
  cases nb with
  | false =>
    go_wp2
    go_ret
    exact ⟨by rw [← HR.out, if_pos (.inl HNB.out)]; rfl, HX.out⟩
  | true =>
    by_cases hz : tl = 0
    · subst hz
      go_wp2
      go_ret
      exact ⟨by rw [← HR.out, if_pos (.inr (.inl HTL.out))]; rfl, HX.out⟩
    · have hz1 : ((tl : Int) == 0) = false := by simp; omega
      by_cases h16 : 16 < tl
      · have h16' : (16 : Int) < (tl : Int) := by omega
        go_wp2
        go_ret
        exact ⟨by rw [← HR.out, if_pos (.inr (.inr (by rw [HTL.out]; exact h16)))]; rfl, HX.out⟩
      · have h16' : ¬ (16 : Int) < (tl : Int) := by omega
        have hR1 := HR.out
        rw [if_neg (by rw [HNB.out, HTL.out]; simp; omega)] at hR1
        have HR1 := Lib.hid hR1
        have HF := Lib.hid (find_any _ win cap es ev W (HQ.out _ HX.out))
        obtain ⟨fi, hfi⟩ : ∃ fi, idx (es.map Qe.v) ev = fi := ⟨_, rfl⟩
        rw [hfi] at HF HR1
        clear hR1 hfi
        go_wp2_with fail
        refine HF.out.mono ?_
        rintro e w2 ⟨rfl, hb2⟩
        have HB2 := Lib.hid (HX.out.trans (hb2.mono HX.out.size))
        have R42 := Lib.hid (Row.below R4.out hb2 R4.out.lt)
        have R72 := Lib.hid (Row.below R7.out hb2 R7.out.lt)
        clear hb2 d0 d1 d2 e0 e1 HF
        by_cases hlt : fi < (at' : Int)
        · go_wp2
          go_ret
          exact ⟨by rw [← HR1.out, if_pos hlt]; rfl, HB2.out⟩
        · have hR2 := HR1.out
          rw [if_neg hlt] at hR2
          have HR2 := Lib.hid hR2
          have HTY := types_any' p T (.slice tA tl tc) et w2 (HS.out _ HB2.out) hT (HSL.out _ HB2.out)
          obtain ⟨ty, hty⟩ : ∃ ty, typesM T [] et = ty := ⟨_, rfl⟩
          rw [hty] at HTY HR2
          have HTY := Lib.hid HTY
          have e1 : w2.cell? ⟨w.heap.size + 1, 1, none⟩ = some (.slice tA tl tc) := (R72.out.cell 1).trans rfl
          clear hR2 hty
          go_wp2_with fail
          refine HTY.out.mono ?_
          rintro e w3 ⟨rfl, hb3⟩
          have HB3 := Lib.hid (HB2.out.trans (hb3.mono HB2.out.size))
          have R43 := Lib.hid (Row.below R42.out hb3 R42.out.lt)
          have R73 := Lib.hid (Row.below R72.out hb3 R72.out.lt)
          clear hb3 e1 HTY
          by_cases ht0 : ty = 0
          · subst ht0
            have hR3 := HR2.out
            rw [if_neg (by decide)] at hR3
            have HR3 := Lib.hid hR3
            have f0 : w3.cell? ⟨w.heap.size + 1, 0, none⟩ = some (.string ev) := (R73.out.cell 0).trans rfl
            have f1 : w3.cell? ⟨w.heap.size + 1, 1, none⟩ = some (.slice tA tl tc) := (R73.out.cell 1).trans rfl
            have f2 : w3.cell? ⟨w.heap.size + 1, 2, none⟩ = some (.bool en) := (R73.out.cell 2).trans rfl
            have f3 : w3.cell? ⟨w.heap.size + 1, 3, none⟩ = some (.int .i64 ea) := (R73.out.cell 3).trans rfl
            have f4 : w3.cell? ⟨w.heap.size + 1, 4, none⟩ = some (.int .i64 eb) := (R73.out.cell 4).trans rfl
            have f5 : w3.cell? ⟨w.heap.size + 1, 5, none⟩ = some (.slice pA pl pc) := (R73.out.cell 5).trans rfl
            clear hR3
            go_wp2_with fail
            refine (often_any ev _ _ en ea eb w3).mono ?_
            rintro e w4 ⟨rfl, hb4⟩
            have HB4 := Lib.hid (HB3.out.trans (hb4.mono HB3.out.size))
            have R44 := Lib.hid (Row.below R43.out hb4 R43.out.lt)
            obtain ⟨ob, hob⟩ : ∃ ob, oftenM en ea eb = ob := ⟨_, rfl⟩
            rw [hob] at HR3 ⊢
            clear hb4 f0 f1 f2 f3 f4 f5 hob
            cases ob with
            | false =>
              go_wp2
              go_ret
              exact ⟨by rw [← (show (1 : Int) = R from HR3.out)]; rfl, HB4.out⟩
            | true =>
              have hR4 := HR3.out
              rw [if_neg (by decide)] at hR4
              have HR4 := Lib.hid hR4
              have hpr := pred_any p T _ win cap es at' w4 (HS.out _ HB4.out) (HQ.out _ HB4.out) hn ha (fun i hi hia => by
                rcases Nat.lt_or_ge i at' with h | h
                · exact H0.out i hi h
                · obtain rfl : i = at' := by omega
                  rw [HE.out]
                  show 0 < et.length ∧ et.length ≤ 1000
                  rw [HTL.out]
                  omega)
              rw [HE.out] at hpr
              have HPR := Lib.hid hpr
              have d0 : w4.cell? ⟨w.heap.size, 0, none⟩ = some (.slice (some ⟨g, o, none⟩) es.length c) := (R44.out.cell 0).trans rfl
              have d1 : w4.cell? ⟨w.heap.size, 1, none⟩ = some (.int .i64 win) := (R44.out.cell 1).trans rfl
              have d2 : w4.cell? ⟨w.heap.size, 2, none⟩ = some (.int .i64 cap) := (R44.out.cell 2).trans rfl
              clear hpr hR4
              go_wp2_with fail
              refine HPR.out.mono ?_
              rintro e w5 ⟨rfl, hb5⟩
              have HB5 := Lib.hid (HB4.out.trans (hb5.mono HB4.out.size))
              rw [HR4.out]
              clear hb5 d0 d1 d2
              go_wp2
              go_ret
              exact ⟨rfl, HB5.out⟩
          · have ht0' : (ty == 0) = false := by simpa using ht0
            go_wp2
            go_ret
            exact ⟨by rw [← HR2.out, if_pos ht0]; rfl, HB3.out⟩
end Go.Proofs.Ytopbildpeojgoaa.Ck
end

section
namespace Go.Proofs.Ytopbildpeojgoaa.Ck
open Go.RowKit Go.Proofs.Ytopbildpeojgoaa Go.Proofs.Ytopbildpeojgoaa.Sch Go.Proofs.Ytopbildpeojgoaa.Ty
set_option linter.unusedVariables false
set_option maxRecDepth 100000
/-- What is wrong with so many elements, from the k-th on. -/
noncomputable def elemsM (T : List Ty) (es : List Qe) : Nat → Nat → Int
  | 0, _ => 0
  | n + 1, k => match es[k]? with
    | some e => if elemM T es k e = 0 then elemsM T es n (k + 1) else elemM T es k e
    | none => 0
theorem elemsM_ok {T : List Ty} {es : List Qe} {n k : Nat} {e : Qe} (he : es[k]? = some e) (h : elemM T es k e = 0) : elemsM T es (n + 1) k = elemsM T es n (k + 1) := by
  show (match es[k]? with | some e => if elemM T es k e = 0 then elemsM T es n (k + 1) else elemM T es k e | none => 0) = _
  rw [he]
  dsimp only
  rw [if_pos h]
theorem elemsM_no {T : List Ty} {es : List Qe} {n k : Nat} {e : Qe} (he : es[k]? = some e) (h : ¬ elemM T es k e = 0) : elemsM T es (n + 1) k = elemM T es k e := by
  show (match es[k]? with | some e => if elemM T es k e = 0 then elemsM T es n (k + 1) else elemM T es k e | none => 0) = _
  rw [he]
  dsimp only
  rw [if_neg h]
def negAt (es : List Qe) (k : Nat) : Bool := match es[k]? with
  | some e => e.neg
  | none => false
/-- What is wrong with a query first. -/
noncomputable def queryM (T : List Ty) (es : List Qe) (win cap : Int) : Int :=
  if 8 < es.length then 5
  else if es.length = 0 ∨ negAt es 0 = true ∨ negAt es (es.length - 1) = true then 1
  else if elemsM T es es.length 0 ≠ 0 then elemsM T es es.length 0
  else if win < 1 ∨ 4294967296 < win then 13
  else if cap < 1 ∨ 1000 < cap then 5
  else 0
set_option maxHeartbeats 8000000 in
theorem query_any (p : Option Addr) (T : List Ty) (v : Value) (win cap : Int) (es : List Qe) (w : World) (hs : Sc w w.heap.size p T) (hT : ∀ t ∈ T, t.2.length ≤ 1000000) (hq : Qs w w.heap.size v es) :
    Calls Try.prog 46 #[.pointer p, .agg #[v, .int .i64 win, .int .i64 cap]] w fun e w' => e = .returned (.int .i64 (queryM T es win cap)) ∧ Below w.heap.size w w' := by
  have HS := Lib.hid (fun X (h : Below w.heap.size w X) => hs.below h h.size)
  have HQ := Lib.hid (fun X (h : Below w.heap.size w X) => hq.below h h.size)
  obtain ⟨A, c, rfl, hnc, hcm, h3⟩ := hq
  obtain ⟨R, hR⟩ : ∃ R, queryM T es win cap = R := ⟨_, rfl⟩
  have HR := Lib.hid hR
  unfold queryM at HR
  rw [hR]
  obtain ⟨n, hn⟩ : ∃ n, es.length = n := ⟨_, rfl⟩
  have HN := Lib.hid hn
  rw [hn] at HR hnc HQ ⊢
  obtain ⟨W, hW⟩ : ∃ W, w.alloc (.cells #[.slice A n c, .int .i64 win, .int .i64 cap] 67) = W := ⟨_, rfl⟩
  have hX : Below w.heap.size w W := by rw [← hW]; exact (Below.refl _ w).alloc (Nat.le_refl _) _
  have HX := Lib.hid hX
  have R3 : Hid (Row W w.heap.size 67 #[.slice A n c, .int .i64 win, .int .i64 cap]) := Lib.hid (by rw [← hW]; exact Row.made w _ _)
  have d0 : W.cell? ⟨w.heap.size, 0, none⟩ = some (.slice A n c) := (R3.out.cell 0).trans rfl
  have d1 : W.cell? ⟨w.heap.size, 1, none⟩ = some (.int .i64 win) := (R3.out.cell 1).trans rfl
  have d2 : W.cell? ⟨w.heap.size, 2, none⟩ = some (.int .i64 cap) := (R3.out.cell 2).trans rfl
  have HCE := Lib.hid (show ∀ k (h : k < es.length), ∃ g o, A = some ⟨g, o, none⟩ ∧ W.cell? ⟨g, o + k * 6 + 2, none⟩ = some (.bool (negAt es k)) from fun k hk => by
    obtain ⟨g, o, tv, pv, e, hg, _, _, c2, _⟩ := h3 k hk
    refine ⟨g, o, e, ?_⟩
    unfold negAt
    rw [List.getElem?_eq_getElem hk]
    exact (hX.cell (p := ⟨g, _, none⟩) hg).trans c2)
  clear h3 hX hs hR
  by_cases h8 : 8 < n
  · have h8' : (8 : Int) < (n : Int) := by omega
    clear hn
    go_enter Try.func46, Try.ntmps46
    go_wp2
    go_ret
    exact ⟨by rw [← HR.out, if_pos h8]; rfl, HX.out⟩
  · have h8' : ¬ (8 : Int) < (n : Int) := by omega
    have hR1 := HR.out
    rw [if_neg h8] at hR1
    have HR1 := Lib.hid hR1
    clear hR1
    by_cases hz : n = 0
    · subst hz
      clear hn
      go_enter Try.func46, Try.ntmps46
      go_wp2
      go_ret
      exact ⟨by rw [← HR1.out, if_pos (.inl (by trivial))]; rfl, HX.out⟩
    · have hz1 : ((n : Int) == 0) = false := by simp; omega
      have hz2 : (0 : Int) < (n : Int) := by omega
      obtain ⟨m, rfl⟩ : ∃ m, n = m + 1 := ⟨n - 1, by omega⟩
      obtain ⟨g, o, rfl, a2⟩ := HCE.out 0 (by omega)
      obtain ⟨g', o', e', b2⟩ := HCE.out m (by omega)
      injection e' with e'
      injection e' with e1 e2
      subst e1 e2
      obtain ⟨n0, hn0⟩ : ∃ b, negAt es 0 = b := ⟨_, rfl⟩
      obtain ⟨nl, hnl⟩ : ∃ b, negAt es m = b := ⟨_, rfl⟩
      rw [hn0] at a2 HR1
      rw [Nat.add_sub_cancel, hnl] at HR1
      rw [hnl] at b2
      have hwr : IntKind.i64.wrap (((m + 1 : Nat) : Int) - 1) = (m : Int) := by rw [IntKind.wrap_i64]; omega
      have hml : (m : Int) < ((m + 1 : Nat) : Int) := by omega
      have hm8 : m ≤ 7 := by omega
      rw [Nat.zero_mul, Nat.add_zero] at a2
      clear hn hn0 hnl HCE
      cases n0 with
      | true =>
        go_enter Try.func46, Try.ntmps46
        go_wp2
        go_ret
        exact ⟨by rw [← HR1.out, if_pos (.inr (.inl (by trivial)))]; rfl, HX.out⟩
      | false =>
        cases nl with
        | true =>
          go_enter Try.func46, Try.ntmps46
          go_wp2
          go_ret
          exact ⟨by rw [← HR1.out, if_pos (.inr (.inr (by trivial)))]; rfl, HX.out⟩
        | false =>
          have hR2 := HR1.out
          rw [if_neg (by simp)] at hR2
          have HR2 := Lib.hid hR2
          clear hR2
          go_enter Try.func46, Try.ntmps46
          go_wp2
          clear hW a2 b2
          go_loopw [36] (fun s36 wr => ∃ k : Nat, k ≤ m + 1 ∧ s36 = .int .i64 k ∧ Hid (Below W.heap.size W wr) ∧ Hid (elemsM T es (m + 1) 0 = elemsM T es (m + 1 - k) k ∧ ∀ i (h : i < es.length), i < k → 0 < es[i].ts.length ∧ es[i].ts.length ≤ 1000)) (fun s36 _ => m + 1 - (intOf s36).toNat)
          case atStart => exact ⟨0, by omega, rfl, Below.refl _ _, rfl, fun i h x => by omega⟩
          case round =>
            obtain ⟨k, hk, rfl, hb, hinv⟩ := hrel
            have R33 := Lib.hid (Row.below R3.out hb.out R3.out.lt)
            have HB3 := Lib.hid (HX.out.trans (hb.out.mono HX.out.size))
            have d0 : wr.cell? ⟨w.heap.size, 0, none⟩ = some (.slice (some ⟨g, o, none⟩) (m + 1) c) := (R33.out.cell 0).trans rfl
            have d1 : wr.cell? ⟨w.heap.size, 1, none⟩ = some (.int .i64 win) := (R33.out.cell 1).trans rfl
            have d2 : wr.cell? ⟨w.heap.size, 2, none⟩ = some (.int .i64 cap) := (R33.out.cell 2).trans rfl
            by_cases hlt : k < m + 1
            · have hkl : k < es.length := by rw [HN.out]; exact hlt
              have hek : es[k]? = some es[k] := List.getElem?_eq_getElem hkl
              have HEL := elem_any p T (.slice (some ⟨g, o, none⟩) (m + 1) c) win cap es k wr (HS.out _ HB3.out) hT (HQ.out _ HB3.out) (by rw [HN.out]; omega) hkl (fun i hi hik => hinv.out.2 i hi hik)
              obtain ⟨x, hx⟩ : ∃ x, es[k] = x := ⟨_, rfl⟩
              rw [hx] at HEL hek
              obtain ⟨r, hr⟩ : ∃ r, elemM T es k x = r := ⟨_, rfl⟩
              rw [hr] at HEL
              have HEL := Lib.hid HEL
              have HEK := Lib.hid hek
              have HXX := Lib.hid hx
              have HRR := Lib.hid hr
              have hkz : (k : Int) < ((m + 1 : Nat) : Int) := by omega
              clear hx hr hek
              go_wp2_with fail
              refine HEL.out.mono ?_
              rintro e w2 ⟨rfl, hb2⟩
              have HB2 := Lib.hid (hb.out.trans (hb2.mono hb.out.size))
              clear hb2 d0 d1 d2
              by_cases hr0 : r = 0
              · subst hr0
                go_wp2
                go_roundw
                case rel =>
                  refine ⟨k + 1, by omega, by go_num, HB2.out, ?_, fun i hi hik => ?_⟩
                  · rw [hinv.out.1, show m + 1 - k = (m + 1 - (k + 1)) + 1 by omega, elemsM_ok HEK.out HRR.out]
                  · rcases Nat.lt_or_ge i k with h | h
                    · exact hinv.out.2 i hi h
                    · obtain rfl : i = k := by omega
                      rw [HXX.out]
                      exact elemM_ts HRR.out
                case measure => simp [intOf]; omega
              · have hr0' : (r == 0) = false := by simpa using hr0
                go_wp2
                go_ret
                refine ⟨?_, HX.out.trans (HB2.out.mono HX.out.size)⟩
                have hE : elemsM T es (m + 1) 0 = r := by rw [hinv.out.1, show m + 1 - k = (m + 1 - (k + 1)) + 1 by omega, elemsM_no HEK.out (by rw [HRR.out]; exact hr0), HRR.out]
                rw [← HR2.out, hE, if_pos hr0]
                rfl
            · have hk' : k = m + 1 := by omega
              subst hk'
              have hE : elemsM T es (m + 1) 0 = 0 := by rw [hinv.out.1, Nat.sub_self]; rfl
              have hR3 := HR2.out
              rw [hE, if_neg (by decide)] at hR3
              have HR3 := Lib.hid hR3
              clear hlt hE hR3
              by_cases hw1 : win < 1
              · go_wp2
                go_ret
                exact ⟨by rw [← HR3.out, if_pos (.inl hw1)]; rfl, HB3.out⟩
              · by_cases hw2 : 4294967296 < win
                · go_wp2
                  go_ret
                  exact ⟨by rw [← HR3.out, if_pos (.inr hw2)]; rfl, HB3.out⟩
                · have hR4 := HR3.out
                  rw [if_neg (by omega)] at hR4
                  have HR4 := Lib.hid hR4
                  clear hR4
                  by_cases hc1 : cap < 1
                  · go_wp2
                    go_ret
                    exact ⟨by rw [← HR4.out, if_pos (.inl hc1)]; rfl, HB3.out⟩
                  · by_cases hc2 : 1000 < cap
                    · go_wp2
                      go_ret
                      exact ⟨by rw [← HR4.out, if_pos (.inr hc2)]; rfl, HB3.out⟩
                    · have hR5 := HR4.out
                      rw [if_neg (by omega)] at hR5
                      have HR5 := Lib.hid hR5
                      clear hR5
                      go_wp2
                      go_ret
                      exact ⟨by rw [← HR5.out]; rfl, HB3.out⟩
end Go.Proofs.Ytopbildpeojgoaa.Ck
end
