/- check.often, check.predicate, check.elem. -/
import Derived.Test.YtopbildpeojgoaaCkB
import Derived.Test.YtopbildpeojgoaaCkD
import Derived.Test.YtopbildpeojgoaaEvlJ3
import Derived.Test.YtopbildpeojgoaaTyJ
namespace Go.Proofs.Ytopbildpeojgoaa.Ck
open Go.RowKit Go.Proofs.Ytopbildpeojgoaa Go.Proofs.Ytopbildpeojgoaa.Sch Go.Proofs.Ytopbildpeojgoaa.Ty
set_option linter.unusedVariables false
set_option maxRecDepth 100000
/-- How often an element can be there. -/
def oftenM (neg : Bool) (mn mx : Int) : Bool := if neg then decide (mn = 1 ∧ mx = 1) else decide (1 ≤ mn ∧ mn ≤ mx ∧ mx ≤ 4)
theorem often_any (v : ByteArray) (tv pv : Value) (neg : Bool) (mn mx : Int) (w : World) : Calls Try.prog 164 #[.agg #[.string v, tv, .bool neg, .int .i64 mn, .int .i64 mx, pv]] w fun e w' => e = .returned (.bool (oftenM neg mn mx)) ∧ Below w.heap.size w w' := by
  have hX : Below w.heap.size w (w.alloc (.cells #[.string v, tv, .bool neg, .int .i64 mn, .int .i64 mx, pv] 73)) := (Below.refl _ w).alloc (Nat.le_refl _) _
  cases neg with
  | true =>
    by_cases h1 : mn = 1
    · subst h1
      by_cases h2 : mx = 1
      · subst h2
        go_enter Try.func164, Try.ntmps164
        go_wp2
        go_ret
        exact ⟨rfl, hX⟩
      · have h2' : (mx == 1) = false := by simpa using h2
        go_enter Try.func164, Try.ntmps164
        go_wp2
        go_ret
        exact ⟨by show Ending.returned (.bool false) = _; simp [oftenM, h2], hX⟩
    · have h1' : (mn == 1) = false := by simpa using h1
      go_enter Try.func164, Try.ntmps164
      go_wp2
      go_ret
      exact ⟨by show Ending.returned (.bool false) = _; simp [oftenM, h1], hX⟩
  | false =>
    by_cases h1 : 1 ≤ mn
    · by_cases h2 : mn ≤ mx
      · by_cases h3 : mx ≤ 4
        · go_enter Try.func164, Try.ntmps164
          go_wp2
          go_ret
          exact ⟨by show Ending.returned (.bool true) = _; simp [oftenM, h1, h2, h3], hX⟩
        · go_enter Try.func164, Try.ntmps164
          go_wp2
          go_ret
          exact ⟨by show Ending.returned (.bool false) = _; simp [oftenM, h1, h2, h3], hX⟩
      · go_enter Try.func164, Try.ntmps164
        go_wp2
        go_ret
        exact ⟨by show Ending.returned (.bool false) = _; simp [oftenM]; intros; omega, hX⟩
    · go_enter Try.func164, Try.ntmps164
      go_wp2
      go_ret
      exact ⟨by show Ending.returned (.bool false) = _; simp [oftenM]; intros; omega, hX⟩
open Classical in
/-- The kind of any parts, and what is wrong. -/
noncomputable def kindQ (T : List Ty) (bs : List Bd) (l : List Nd) : Int × Int := if Ty.Good l then kindS T bs l [] else (0, 1)
theorem kindq_any (p : Option Addr) (T : List Ty) (sv : Value) (bs : List Bd) (v : Value) (l : List Nd) (w : World) (hs : Sc w w.heap.size p T) (hb : Bs w w.heap.size sv bs) (hl : Ns w w.heap.size v l) :
    Calls Try.prog 204 #[.pointer p, sv, v] w (KPost w (kindQ T bs l)) := by
  by_cases hg : Ty.Good l
  · rw [show kindQ T bs l = kindS T bs l [] from by unfold kindQ; rw [if_pos hg]]
    exact kind_any p T sv bs v l w hs hb hl hg
  · rw [show kindQ T bs l = (0, 1) from by unfold kindQ; rw [if_neg hg]]
    have HM := Lib.hid ((Evl.tmay_any v l w hl).mono fun _ _ h => Evl.false_of h hg)
    obtain ⟨bA, bc, rfl, _, _, _⟩ := hb
    obtain ⟨A, c, rfl, _, _, _⟩ := hl
    clear hs hg
    unfold KPost
    go_enter Try.func204, Try.ntmps204
    go_wp2_with fail
    refine HM.out.mono ?_
    rintro e w1 ⟨rfl, hb1⟩
    have HB := Lib.hid hb1
    clear hb1
    go_wp2
    go_ret2
    exact ⟨rfl, HB.out⟩
/-- What is wrong with an element's predicate. -/
noncomputable def predM (T : List Ty) (bs : List Bd) (l : List Nd) : Int := if l.length = 0 then 0 else if (kindQ T bs l).2 = 0 ∧ (kindQ T bs l).1 ≠ 3 then 10 else (kindQ T bs l).2
set_option maxHeartbeats 2000000 in
theorem pred_any (p : Option Addr) (T : List Ty) (v : Value) (win cap : Int) (es : List Qe) (at' : Nat) (w : World) (hs : Sc w w.heap.size p T) (hq : Qs w w.heap.size v es) (hn : es.length ≤ 1000) (ha : at' < es.length) (h0 : ∀ i (h : i < es.length), i ≤ at' → 0 < es[i].ts.length ∧ es[i].ts.length ≤ 1000) :
    Calls Try.prog 165 #[.pointer p, .agg #[v, .int .i64 win, .int .i64 cap], .int .i64 (at' : Int)] w fun e w' => e = .returned (.int .i64 (predM T (scopeM es at') es[at'].pr)) ∧ Below w.heap.size w w' := by
  have hX : Below w.heap.size w (w.alloc (.cells #[v, .int .i64 win, .int .i64 cap] 67)) := (Below.refl _ w).alloc (Nat.le_refl _) _
  have HX := Lib.hid hX
  have HS := Lib.hid (hs.below hX hX.size)
  have HSC := Lib.hid (scope_any v win cap es at' (w.alloc (.cells #[v, .int .i64 win, .int .i64 cap] 67)) (hq.below hX hX.size) hn ha h0)
  have HQ := Lib.hid (hq.below hX hX.size)
  obtain ⟨A, c, rfl, hnc, hcm, h3⟩ := hq
  obtain ⟨g, o, tv, pv, rfl, hg, c0, c1, c2, c3, c4, c5, hsl, hns⟩ := h3 at' ha
  have HNS := Lib.hid (hns.below hX hX.size)
  obtain ⟨L, hL⟩ : ∃ L, es[at'].pr = L := ⟨_, rfl⟩
  rw [hL] at HNS hns ⊢
  obtain ⟨tA, tc, rfl, _, _, _⟩ := hsl
  obtain ⟨pA, pc, rfl, _, _, _⟩ := hns
  obtain ⟨bs, hbs⟩ : ∃ bs, scopeM es at' = bs := ⟨_, rfl⟩
  rw [hbs] at HSC ⊢
  have haz : (at' : Int) < (es.length : Int) := by omega
  have k5 : (w.alloc (.cells #[.slice (some ⟨g, o, none⟩) es.length c, .int .i64 win, .int .i64 cap] 67)).cell? ⟨g, o + at' * 6 + 5, none⟩ = some (.slice pA L.length pc) := Lib.cell?_alloc_some _ c5
  obtain ⟨m, hm⟩ : ∃ m, L.length = m := ⟨_, rfl⟩
  have HM := Lib.hid hm
  clear h3 c0 c1 c2 c3 c4 c5 hX hs h0 hL hbs
  by_cases hz : m = 0
  · subst hz
    rw [hm] at k5
    clear hm
    go_enter Try.func165, Try.ntmps165
    go_wp2
    go_ret
    exact ⟨by unfold predM; rw [if_pos HM.out]; rfl, HX.out⟩
  · have hz1 : ((m : Int) == 0) = false := by simp; omega
    rw [hm] at k5
    clear hm
    go_enter Try.func165, Try.ntmps165
    go_wp2_with fail
    refine HSC.out.mono ?_
    rintro e w1 ⟨u, rfl, hbs, hb1⟩
    have hk := kindq_any p T u bs _ L w1 (HS.out.below hb1 hb1.size) hbs (HNS.out.below hb1 hb1.size)
    rw [HM.out] at hk
    have HK := Lib.hid hk
    have HB1 := Lib.hid (HX.out.trans (hb1.mono HX.out.size))
    obtain ⟨uA, uc, rfl, _, _, _⟩ := hbs
    clear hk hb1 k5
    go_wp2_with fail
    refine HK.out.mono ?_
    unfold KPost
    rintro e w2 ⟨rfl, hb2⟩
    have HB2 := Lib.hid (HB1.out.trans (hb2.mono HB1.out.size))
    clear hb2
    obtain ⟨⟨r1, r2⟩, hr⟩ : ∃ r, kindQ T bs L = r := ⟨_, rfl⟩
    have HR := Lib.hid hr
    rw [hr]
    clear hr HK
    dsimp only
    by_cases h2 : r2 = 0
    · subst h2
      by_cases h1 : r1 = 3
      · subst h1
        go_wp2
        go_ret
        exact ⟨by unfold predM; rw [if_neg (by rw [HM.out]; exact hz), HR.out]; rfl, HB2.out⟩
      · have h1' : (r1 != 3) = true := by simpa using h1
        have h1'' : (r1 == 3) = false := by simpa using h1
        go_wp2
        go_ret
        exact ⟨by unfold predM; rw [if_neg (by rw [HM.out]; exact hz), HR.out]; dsimp only; rw [if_pos ⟨rfl, h1⟩]; rfl, HB2.out⟩
    · have h2' : (r2 == 0) = false := by simpa using h2
      go_wp2
      go_ret
      exact ⟨by unfold predM; rw [if_neg (by rw [HM.out]; exact hz), HR.out]; simp only; rw [if_neg (fun x => h2 x.1)]; rfl, HB2.out⟩
end Go.Proofs.Ytopbildpeojgoaa.Ck
