/- Which values may be; what a text is read as. -/
import Derived.Test.YtlpkeinablekpaaDoorVdR
import Derived.Test.YtlpkeinablekpaaDoorVdZ
namespace Go.Proofs.YtlpkeinablekpaaDoor.Vd
open Go.RowKit Go.Proofs.YtlpkeinablekpaaDoor Go.Proofs.YtlpkeinablekpaaDoor.Door Go.Proofs.YtlpkeinablekpaaDoor.Ev Go.Proofs.YtlpkeinablekpaaDoor.Sch Go.Proofs.YtlpkeinablekpaaDoor.Evl Go.Proofs.YtlpkeinablekpaaDoor.Ty
set_option linter.unusedVariables false
set_option maxRecDepth 100000
/-- May a value be? -/
def mayB (v : VV) : Bool := if v.k = 1 then (v.s.toList == []) && !v.b else if v.k = 2 then (v.i == 0) && !v.b && decide (v.s.size ≤ 64) else if v.k = 3 then (v.i == 0) && (v.s.toList == []) else false
theorem nil_eq : ((⟨#[]⟩ : ByteArray).toList == []) = true := by rw [Go.Lib.toList_data]; rfl
theorem vmay_any (k i : Int) (s : ByteArray) (b : Bool) (w : World) : Calls Tryd.prog 25 #[.agg #[.int .i64 k, .int .i64 i, .string s, .bool b]] w fun e w' => e = .returned (.bool (mayB ⟨k, i, s, b⟩)) ∧ Below w.heap.size w w' := by
  by_cases h1 : k = 1
  · subst h1
    rw [show mayB ⟨1, i, s, b⟩ = ((s.toList == []) && !b) from rfl]
    cases b with
    | true => rw [show ((s.toList == []) && !true) = false by simp]; exact may_n1 i s w
    | false =>
      by_cases hs : s.toList = []
      · obtain rfl := bytes_nil hs
        rw [nil_eq]
        exact may_1 i w
      · rw [show ((s.toList == []) && !false) = false by rw [beq_eq_false_iff_ne.2 hs]; rfl]; exact may_n2 i s hs w
  · by_cases h2 : k = 2
    · subst h2
      rw [show mayB ⟨2, i, s, b⟩ = ((i == 0) && !b && decide (s.size ≤ 64)) from rfl]
      cases b with
      | true => rw [show ((i == 0) && !true && decide (s.size ≤ 64)) = false by simp]; exact may_n3 i s w
      | false =>
        by_cases hi : i = 0
        · subst hi
          by_cases hz : s.size ≤ 64
          · rw [decide_eq_true hz]; exact may_2 s hz w
          · rw [decide_eq_false hz]; exact may_n5 s hz w
        · rw [show ((i == 0) && !false && decide (s.size ≤ 64)) = false by rw [beq_eq_false_iff_ne.2 hi]; rfl]; exact may_n4 i s hi w
    · by_cases h3 : k = 3
      · subst h3
        rw [show mayB ⟨3, i, s, b⟩ = ((i == 0) && (s.toList == [])) from rfl]
        by_cases hi : i = 0
        · subst hi
          by_cases hs : s.toList = []
          · obtain rfl := bytes_nil hs
            rw [nil_eq]
            exact may_3 b w
          · rw [show (((0 : Int) == 0) && (s.toList == [])) = false by rw [beq_eq_false_iff_ne.2 hs]; rfl]; exact may_n7 s b hs w
        · rw [show ((i == 0) && (s.toList == [])) = false by rw [beq_eq_false_iff_ne.2 hi]; rfl]; exact may_n6 i s b hi w
      · rw [show mayB ⟨k, i, s, b⟩ = false by unfold mayB; rw [if_neg h1, if_neg h2, if_neg h3]]
        exact may_n8 k i s b (by simpa using h1) (by simpa using h2) (by simpa using h3) w
theorem lmay_any (k i : Int) (s : ByteArray) (b : Bool) (w : World) : Calls Tryd.prog 26 #[.agg #[.int .i64 k, .int .i64 i, .string s, .bool b]] w fun e w' => e = .returned (.bool (mayB ⟨k, i, s, b⟩)) ∧ Below w.heap.size w w' := by
  by_cases h1 : k = 1
  · subst h1
    rw [show mayB ⟨1, i, s, b⟩ = ((s.toList == []) && !b) from rfl]
    cases hs : (s.toList == [])
    all_goals
      go_enter Tryd.func26, Tryd.ntmps26
      go_wp2
      go_ret
      exact ⟨rfl, by go_grown⟩
  · by_cases h2 : k = 2
    · subst h2
      rw [show mayB ⟨2, i, s, b⟩ = ((i == 0) && !b && decide (s.size ≤ 64)) from rfl]
      obtain ⟨z, hz⟩ : ∃ z, decide (s.size ≤ 64) = z := ⟨_, rfl⟩
      have hz2 : decide ((s.size : Int) ≤ 64) = z := by rw [← hz, decide_eq_decide]; omega
      rw [hz]
      have HZ := Lib.hid hz
      clear hz
      cases hi : (i == 0) <;> cases b
      all_goals
        go_enter Tryd.func26, Tryd.ntmps26
        go_wp2
        go_ret
        exact ⟨rfl, by go_grown⟩
    · by_cases h3 : k = 3
      · subst h3
        rw [show mayB ⟨3, i, s, b⟩ = ((i == 0) && (s.toList == [])) from rfl]
        cases hi : (i == 0)
        all_goals
          go_enter Tryd.func26, Tryd.ntmps26
          go_wp2
          go_ret
          first
            | exact ⟨rfl, by go_grown⟩
            | (refine ⟨?_, by go_grown⟩; show Ending.returned (.bool s.toList.isEmpty) = Ending.returned (.bool (true && (s.toList == []))); cases s.toList <;> rfl)
      · rw [show mayB ⟨k, i, s, b⟩ = false by unfold mayB; rw [if_neg h1, if_neg h2, if_neg h3]]
        have e1 := d_ne h1
        have e2 := d_ne h2
        have e3 := d_ne h3
        clear h1 h2 h3
        go_enter Tryd.func26, Tryd.ntmps26
        go_wp2
        go_ret
        exact ⟨rfl, by go_grown⟩
/-- What a text is read as. -/
def NotQ (s : ByteArray) : Prop := ∀ t : List UInt8, s.data.toList ≠ 39 :: (dbl t ++ [39])
def RdP (s : ByteArray) (v : VV) : Prop := (s = truthB true ∧ v = ⟨3, 0, ⟨#[]⟩, true⟩) ∨ (s = truthB false ∧ v = ⟨3, 0, ⟨#[]⟩, false⟩) ∨ (s ≠ truthB true ∧ s ≠ truthB false ∧
  ((∃ t : List UInt8, s.data.toList = 39 :: (dbl t ++ [39]) ∧ v = ⟨2, 0, B t, false⟩) ∨ (NotQ s ∧ ((Num.parseB s = true ∧ v = ⟨1, Num.parseV s, ⟨#[]⟩, false⟩) ∨ (Num.parseB s = false ∧ v = ⟨0, 0, ⟨#[]⟩, false⟩)))))
def RdE (s : ByteArray) (w : World) (e : Ending) (w' : World) : Prop := ∃ v : VV, e = .returned (.agg #[.int .i64 v.k, .int .i64 v.i, .string v.s, .bool v.b]) ∧ RdP s v ∧ Below w.heap.size w w'
theorem rdE {s : ByteArray} {w w' : World} (v : VV) (h : RdP s v) (hb : Below w.heap.size w w') : RdE s w (.returned (.agg #[.int .i64 v.k, .int .i64 v.i, .string v.s, .bool v.b])) w' := ⟨v, rfl, h, hb⟩
theorem list_ne {s t : ByteArray} (h : s ≠ t) : (s.toList == t.toList) = false := by
  rw [beq_eq_false_iff_ne]
  intro e
  apply h
  rw [Go.Lib.toList_data, Go.Lib.toList_data] at e
  exact ByteArray.ext (Array.ext' e)
set_option maxHeartbeats 1000000 in
theorem read_any (s : ByteArray) (w : World) (hm : ML w) (hs : s.size < 500000) : Calls Tryd.prog 48 #[.string s] w (RdE s w) := by
  have HM := Lib.hid hm
  have HS := Lib.hid hs
  clear hm hs
  have HX := Lib.hid ((Below.refl _ w).alloc (Nat.le_refl _) (.cells #[.int .i64 0, .int .i64 0, .string ⟨#[]⟩, .bool false] 23))
  have HR : Hid (Rz (w.alloc (.cells #[.int .i64 0, .int .i64 0, .string ⟨#[]⟩, .bool false] 23)) w.heap.size) := Row.made _ _ _
  by_cases ht : s = truthB true
  · subst ht
    rw [show truthB true = ⟨#[116, 114, 117, 101]⟩ from rfl] at HS ⊢
    go_enter Tryd.func48, Tryd.ntmps48
    go_wp2_with fail
    refine (vtruth_any true _).mono ?_
    rintro e w1 ⟨rfl, hb⟩
    have HB := Lib.hid (HX.out.trans (hb.mono HX.out.size))
    have HZ : Hid (Rz w1 w.heap.size) := Lib.hid (Row.below HR.out hb HR.out.lt)
    obtain ⟨l1, p10, p11, p12, p13, f10, f11, f12, f13⟩ := HZ.out.facts
    clear hb
    go_wp2
    obtain ⟨k0, k1, k2, k3⟩ := four (put4 HZ.out (.int .i64 3) (.int .i64 0) (.string ⟨#[]⟩) (.bool true))
    exact bodyPost_ret (v := .agg #[.int .i64 3, .int .i64 0, .string ⟨#[]⟩, .bool true]) (by simp [results, Tryd.results48, go_sem, k0, k1, k2, k3]; try rfl) rfl (rdE ⟨3, 0, ⟨#[]⟩, true⟩ (.inl ⟨rfl, rfl⟩) (below4 HB.out w.heap.size (by omega) _ _ _ _))
  · by_cases hf : s = truthB false
    · subst hf
      rw [show truthB false = ⟨#[102, 97, 108, 115, 101]⟩ from rfl] at HS ⊢
      clear ht
      go_enter Tryd.func48, Tryd.ntmps48
      go_wp2_with fail
      refine (vtruth_any false _).mono ?_
      rintro e w1 ⟨rfl, hb⟩
      have HB := Lib.hid (HX.out.trans (hb.mono HX.out.size))
      have HZ : Hid (Rz w1 w.heap.size) := Lib.hid (Row.below HR.out hb HR.out.lt)
      obtain ⟨l1, p10, p11, p12, p13, f10, f11, f12, f13⟩ := HZ.out.facts
      clear hb
      go_wp2
      obtain ⟨k0, k1, k2, k3⟩ := four (put4 HZ.out (.int .i64 3) (.int .i64 0) (.string ⟨#[]⟩) (.bool false))
      exact bodyPost_ret (v := .agg #[.int .i64 3, .int .i64 0, .string ⟨#[]⟩, .bool false]) (by simp [results, Tryd.results48, go_sem, k0, k1, k2, k3]; try rfl) rfl (rdE ⟨3, 0, ⟨#[]⟩, false⟩ (.inr (.inl ⟨rfl, rfl⟩)) (below4 HB.out w.heap.size (by omega) _ _ _ _))
    · have e1 : (s.toList == [116, 114, 117, 101]) = false := by have h := list_ne ht; rw [show (truthB true).toList = [116, 114, 117, 101] by rw [Go.Lib.toList_data]; rfl] at h; exact h
      have e2 : (s.toList == [102, 97, 108, 115, 101]) = false := by have h := list_ne hf; rw [show (truthB false).toList = [102, 97, 108, 115, 101] by rw [Go.Lib.toList_data]; rfl] at h; exact h
      have HTF := Lib.hid (And.intro ht hf)
      clear ht hf
      go_enter Tryd.func48, Tryd.ntmps48
      go_wp2_with fail
      refine (unquote_any s _ (HM.out.below HX.out) HS.out).mono ?_
      rintro e w1 ⟨hb, hor⟩
      have HB := Lib.hid (HX.out.trans (hb.mono HX.out.size))
      have HZ : Hid (Rz w1 w.heap.size) := Lib.hid (Row.below HR.out hb HR.out.lt)
      clear hb e1 e2
      rcases hor with ⟨t, rfl, hq⟩ | ⟨rfl, hq⟩
      · have HQ := Lib.hid hq
        clear hq
        obtain ⟨T, hT⟩ : ∃ T, B t = T := ⟨_, rfl⟩
        have HT := Lib.hid hT
        rw [hT]
        clear hT
        go_wp2_with fail
        refine (vtext_any T _).mono ?_
        rintro e w2 ⟨rfl, hb⟩
        have HB2 := Lib.hid (HB.out.trans (hb.mono HB.out.size))
        have HZ2 : Hid (Rz w2 w.heap.size) := Lib.hid (Row.below HZ.out hb HZ.out.lt)
        obtain ⟨l1, p10, p11, p12, p13, f10, f11, f12, f13⟩ := HZ2.out.facts
        clear hb
        go_wp2
        obtain ⟨k0, k1, k2, k3⟩ := four (put4 HZ2.out (.int .i64 2) (.int .i64 0) (.string T) (.bool false))
        exact bodyPost_ret (v := .agg #[.int .i64 2, .int .i64 0, .string T, .bool false]) (by simp [results, Tryd.results48, go_sem, k0, k1, k2, k3]; try rfl) rfl (rdE ⟨2, 0, T, false⟩ (.inr (.inr ⟨HTF.out.1, HTF.out.2, .inl ⟨t, HQ.out, by rw [HT.out]⟩⟩)) (below4 HB2.out w.heap.size (by omega) _ _ _ _))
      · have HQ := Lib.hid hq
        clear hq
        go_wp2_with fail
        refine (Num.parse_any s _ (by have := HS.out; omega)).mono ?_
        rintro e w2 ⟨rfl, rfl⟩
        cases hp : Num.parseB s
        · obtain ⟨PV, hPV⟩ : ∃ PV, Num.parseV s = PV := ⟨_, rfl⟩
          have HP := Lib.hid hp
          rw [hPV]
          clear hp hPV
          obtain ⟨l1, p10, p11, p12, p13, f10, f11, f12, f13⟩ := HZ.out.facts
          go_wp2
          obtain ⟨k0, k1, k2, k3⟩ := four (put4 HZ.out (.int .i64 0) (.int .i64 0) (.string ⟨#[]⟩) (.bool false))
          exact bodyPost_ret (v := .agg #[.int .i64 0, .int .i64 0, .string ⟨#[]⟩, .bool false]) (by simp [results, Tryd.results48, go_sem, k0, k1, k2, k3]; try rfl) rfl (rdE ⟨0, 0, ⟨#[]⟩, false⟩ (.inr (.inr ⟨HTF.out.1, HTF.out.2, .inr ⟨HQ.out, .inr ⟨HP.out, rfl⟩⟩⟩)) (below4 HB.out w.heap.size (by omega) _ _ _ _))
        · obtain ⟨PV, hPV⟩ : ∃ PV, Num.parseV s = PV := ⟨_, rfl⟩
          have HP := Lib.hid hp
          have HPV := Lib.hid hPV
          rw [hPV]
          clear hp hPV
          go_wp2_with fail
          refine (vnum_any PV _).mono ?_
          rintro e w2 ⟨rfl, hb⟩
          have HB2 := Lib.hid (HB.out.trans (hb.mono HB.out.size))
          have HZ2 : Hid (Rz w2 w.heap.size) := Lib.hid (Row.below HZ.out hb HZ.out.lt)
          obtain ⟨l1, p10, p11, p12, p13, f10, f11, f12, f13⟩ := HZ2.out.facts
          clear hb
          go_wp2
          obtain ⟨k0, k1, k2, k3⟩ := four (put4 HZ2.out (.int .i64 1) (.int .i64 PV) (.string ⟨#[]⟩) (.bool false))
          exact bodyPost_ret (v := .agg #[.int .i64 1, .int .i64 PV, .string ⟨#[]⟩, .bool false]) (by simp [results, Tryd.results48, go_sem, k0, k1, k2, k3]; try rfl) rfl (rdE ⟨1, PV, ⟨#[]⟩, false⟩ (.inr (.inr ⟨HTF.out.1, HTF.out.2, .inr ⟨HQ.out, .inl ⟨HP.out, by rw [HPV.out]⟩⟩⟩)) (below4 HB2.out w.heap.size (by omega) _ _ _ _))
end Go.Proofs.YtlpkeinablekpaaDoor.Vd
