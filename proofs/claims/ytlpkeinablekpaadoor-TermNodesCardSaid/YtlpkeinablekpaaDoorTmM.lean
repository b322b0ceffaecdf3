/- The law TermNodes, walked: a leaf. -/
import Derived.Test.YtlpkeinablekpaaDoorTmE
import Derived.Deep.CutBlock
import Derived.Test.YtlpkeinablekpaaDoorEvlO
import Derived.OpenShut
import Derived.ProofKit
namespace Go.Proofs.YtlpkeinablekpaaDoor.Tm
open Go.RowKit Go.Proofs.YtlpkeinablekpaaDoor Go.Proofs.YtlpkeinablekpaaDoor.Door Go.Proofs.YtlpkeinablekpaaDoor.Ev Go.Proofs.YtlpkeinablekpaaDoor.Sch Go.Proofs.YtlpkeinablekpaaDoor.Evl Go.Proofs.YtlpkeinablekpaaDoor.Ty Go.Proofs.YtlpkeinablekpaaDoor.Vd
set_option linter.unusedVariables false
set_option maxRecDepth 100000
set_option maxHeartbeats 4000000 in
theorem part_TmE_g1 (op k i : Int) (s : ByteArray) (b : Bool) (v f : ByteArray) (w : World) (HM : Hid (ML w)) : (part_TmE op k i s b v f w HM).G1 := by
  delta part_TmE
  intro g_last
  unhygienic intros
  by_cases k0 : k = 0
  · subst k0
    by_cases i0 : i = 0
    · subst i0
      by_cases s0 : s = ⟨#[]⟩
      · subst s0
        cases b
        · have HE : Hid (nvB 0 0 ⟨#[]⟩ false = true) := nvB_ok.2 ⟨rfl, rfl, rfl, rfl⟩
          go_wp2
          go_meet
          exact ⟨by rw [HE.out], rfl⟩
        · have HE : Hid (nvB 0 0 ⟨#[]⟩ true = false) := nv_no (fun h => by cases h.2.2.2)
          go_wp2
          go_meet
          exact ⟨by rw [HE.out], rfl⟩
      · have HE : Hid (nvB 0 0 s b = false) := nv_no (fun h => s0 h.2.2.1)
        cases b
        all_goals
          go_wp2
          all_goals
            first
              | exact absurd rfl s0
              | exact absurd (bytes_nil (by assumption)) s0
              | (go_meet; exact ⟨by rw [HE.out], rfl⟩)
    · have HE : Hid (nvB 0 i s b = false) := nv_no (fun h => i0 h.2.1)
      go_wp2
      all_goals
        first
          | exact absurd rfl i0
          | (go_meet; exact ⟨by rw [HE.out], rfl⟩)
  · have HE : Hid (nvB k i s b = false) := nv_no (fun h => k0 h.1)
    go_wp2
    all_goals
      first
        | exact absurd rfl k0
        | (go_meet; exact ⟨by rw [HE.out], rfl⟩)
end Go.Proofs.YtlpkeinablekpaaDoor.Tm

/- The law TermNodes, walked: a leaf. -/
namespace Go.Proofs.YtlpkeinablekpaaDoor.Tm
open Go.RowKit Go.Proofs.YtlpkeinablekpaaDoor Go.Proofs.YtlpkeinablekpaaDoor.Door Go.Proofs.YtlpkeinablekpaaDoor.Ev Go.Proofs.YtlpkeinablekpaaDoor.Sch Go.Proofs.YtlpkeinablekpaaDoor.Evl Go.Proofs.YtlpkeinablekpaaDoor.Ty Go.Proofs.YtlpkeinablekpaaDoor.Vd
set_option linter.unusedVariables false
set_option maxRecDepth 100000
set_option maxHeartbeats 4000000 in
theorem part_TmE_g2 (op k i : Int) (s : ByteArray) (b : Bool) (v f : ByteArray) (w : World) (HM : Hid (ML w)) : (part_TmE op k i s b v f w HM).G2 := by
  delta part_TmE
  intro g_last
  unhygienic intros
  by_cases k1 : k = 1
  · subst k1
    cases e1 : (s.toList == [])
    · have HE : Hid (valB 1 i s b = false) := by unfold Hid valB; rw [if_pos rfl, e1]; rfl
      go_wp2
      go_meet
      exact ⟨by rw [HE.out], rfl⟩
    · cases b
      · by_cases i0 : i = -9223372036854775808
        · subst i0
          have HE : Hid (valB 1 (-9223372036854775808) s false = false) := by unfold Hid valB; rw [if_pos rfl, e1]; rfl
          go_wp2
          go_meet
          exact ⟨by rw [HE.out], rfl⟩
        · have i1 : (i == -9223372036854775808) = false := beq_eq_false_iff_ne.2 i0
          have HE : Hid (valB 1 i s false = true) := by unfold Hid valB; rw [if_pos rfl, e1, i1]; rfl
          go_wp2
          all_goals
            first
              | exact absurd rfl i0
              | (go_meet; exact ⟨by rw [HE.out], rfl⟩)
      · have HE : Hid (valB 1 i s true = false) := by unfold Hid valB; rw [if_pos rfl, e1]; rfl
        go_wp2
        go_meet
        exact ⟨by rw [HE.out], rfl⟩
  · have g1 : (k == 1) = false := beq_eq_false_iff_ne.2 k1
    by_cases k2 : k = 2
    · subst k2
      cases e1 : (i == 0)
      · have HE : Hid (valB 2 i s b = false) := by unfold Hid valB; rw [if_neg (by omega), if_pos rfl, e1]; rfl
        clear k1 g1
        go_wp2
        go_meet
        exact ⟨by rw [HE.out], rfl⟩
      · cases b
        · obtain ⟨z, hz⟩ : ∃ z, decide (s.size ≤ 64) = z := ⟨_, rfl⟩
          have hz2 : decide ((s.size : Int) ≤ 64) = z := by rw [← hz, decide_eq_decide]; omega
          have HE : Hid (valB 2 i s false = z) := by unfold Hid valB; rw [if_neg (by omega), if_pos rfl, e1, hz]; rfl
          clear k1 g1 hz
          cases z
          all_goals
            go_wp2
            go_meet
            exact ⟨by rw [HE.out], rfl⟩
        · have HE : Hid (valB 2 i s true = false) := by unfold Hid valB; rw [if_neg (by omega), if_pos rfl, e1]; rfl
          clear k1 g1
          go_wp2
          go_meet
          exact ⟨by rw [HE.out], rfl⟩
    · have g2 : (k == 2) = false := beq_eq_false_iff_ne.2 k2
      by_cases k3 : k = 3
      · subst k3
        cases e1 : (i == 0)
        · have HE : Hid (valB 3 i s b = false) := by unfold Hid valB; rw [if_neg (by omega), if_neg (by omega), if_pos rfl, e1]; rfl
          clear k1 g1 k2 g2
          go_wp2
          go_meet
          exact ⟨by rw [HE.out], rfl⟩
        · cases e2 : (s.toList == [])
          all_goals
            have HE : Hid (valB 3 i s b = (s.toList == [])) := by unfold Hid valB; rw [if_neg (by omega), if_neg (by omega), if_pos rfl, e1]; rfl
            rw [e2] at HE
            try clear k1 g1 k2 g2
            go_wp2
            go_meet
            exact ⟨by rw [HE.out], rfl⟩
      · have g3 : (k == 3) = false := beq_eq_false_iff_ne.2 k3
        have HE : Hid (valB k i s b = false) := by unfold Hid valB; rw [if_neg k1, if_neg k2, if_neg k3]
        clear k1 k2 k3
        go_wp2
        go_meet
        exact ⟨by rw [HE.out], rfl⟩
end Go.Proofs.YtlpkeinablekpaaDoor.Tm

/- The law TermNodes, walked: a leaf. -/
namespace Go.Proofs.YtlpkeinablekpaaDoor.Tm
open Go.RowKit Go.Proofs.YtlpkeinablekpaaDoor Go.Proofs.YtlpkeinablekpaaDoor.Door Go.Proofs.YtlpkeinablekpaaDoor.Ev Go.Proofs.YtlpkeinablekpaaDoor.Sch Go.Proofs.YtlpkeinablekpaaDoor.Evl Go.Proofs.YtlpkeinablekpaaDoor.Ty Go.Proofs.YtlpkeinablekpaaDoor.Vd
set_option linter.unusedVariables false
set_option maxRecDepth 100000
set_option maxHeartbeats 4000000 in
theorem part_TmE_g3 (op k i : Int) (s : ByteArray) (b : Bool) (v f : ByteArray) (w : World) (HM : Hid (ML w)) : (part_TmE op k i s b v f w HM).G3 := by
  delta part_TmE
  intro g_last
  unhygienic intros
  by_cases o1 : o = 1
  · subst o1
    have HE : Hid (wantB 1 k i s b V F = (va && em)) := by unfold Hid wantB; rw [if_pos rfl, HVA.out, HEM.out]
    clear HVA HEM HNV
    cases va
    all_goals cases em
    all_goals
      go_wp2
      go_meet
      exact ⟨by rw [HE.out]; rfl, HX6⟩
  · by_cases o2 : o = 2
    · subst o2
      have HE : Hid (wantB 2 k i s b V F = (nv && nameB V.data.toList && nameB F.data.toList)) := by unfold Hid wantB; rw [if_neg (by omega), if_pos rfl, HNV.out]
      clear HVA HEM HNV o1
      cases nv
      · go_wp2
        go_meet
        exact ⟨by rw [HE.out]; rfl, HX6⟩
      · go_wp2_with fail
        refine (name_any V _).mono ?_
        rintro e w1 ⟨rfl, hb⟩
        have HX7 := Lib.hid (HX6.out.call hb)
        clear c0 c1 c2 c3 c4 c5 c6 hb
        obtain ⟨c0, c1, c2, c3, c4, c5, c6⟩ := HX7.out.cells
        obtain ⟨n1, h1⟩ : ∃ n1, nameB V.data.toList = n1 := ⟨_, rfl⟩
        rw [h1] at HE ⊢
        clear h1
        cases n1
        · go_wp2
          go_meet
          exact ⟨by rw [HE.out]; rfl, HX7⟩
        · go_wp2_with fail
          refine (name_any F _).mono ?_
          rintro e w2 ⟨rfl, hb⟩
          have HX8 := Lib.hid (HX7.out.call hb)
          clear c0 c1 c2 c3 c4 c5 c6 hb
          obtain ⟨n2, h2⟩ : ∃ n2, nameB F.data.toList = n2 := ⟨_, rfl⟩
          rw [h2] at HE ⊢
          clear h2
          go_wp2
          go_meet
          exact ⟨by rw [HE.out]; rfl, HX8⟩
    · have e1 : (o == 1) = false := beq_eq_false_iff_ne.2 o1
      have e2 : (o == 2) = false := beq_eq_false_iff_ne.2 o2
      by_cases o3 : o ≤ 15
      · have HE : Hid (wantB o k i s b V F = (nv && em)) := by unfold Hid wantB; rw [if_neg o1, if_neg o2, if_pos o3, HNV.out, HEM.out]
        clear HVA HEM HNV
        cases nv
        all_goals cases em
        all_goals
          go_wp2
          go_meet
          exact ⟨by rw [HE.out]; rfl, HX6⟩
      · have HE : Hid (wantB o k i s b V F = false) := by unfold Hid wantB; rw [if_neg o1, if_neg o2, if_neg o3]
        clear HVA HEM HNV
        go_wp2
        go_meet
        exact ⟨congrArg Value.bool HE.out.symm, HX6⟩
end Go.Proofs.YtlpkeinablekpaaDoor.Tm

/- The law TermNodes, walked: a leaf. -/
namespace Go.Proofs.YtlpkeinablekpaaDoor.Tm
open Go.RowKit Go.Proofs.YtlpkeinablekpaaDoor Go.Proofs.YtlpkeinablekpaaDoor.Door Go.Proofs.YtlpkeinablekpaaDoor.Ev Go.Proofs.YtlpkeinablekpaaDoor.Sch Go.Proofs.YtlpkeinablekpaaDoor.Evl Go.Proofs.YtlpkeinablekpaaDoor.Ty Go.Proofs.YtlpkeinablekpaaDoor.Vd
set_option linter.unusedVariables false
set_option maxRecDepth 100000
set_option maxHeartbeats 4000000 in
theorem part_TmE_g4 (op k i : Int) (s : ByteArray) (b : Bool) (v f : ByteArray) (w : World) (HM : Hid (ML w)) : (part_TmE op k i s b v f w HM).G4 := by
  delta part_TmE
  intro g_last
  unhygienic intros
  obtain ⟨rfl, HX8⟩ := hcut
  clear c0 c1 c2 c3 c4 c5 c6 HX HX6 HVA HEM HNV
  obtain ⟨c0, c1, c2, c3, c4, c5, c6⟩ := HX8.out.cells
  have HG : Hid (goodB (oneL ⟨o, k, i, s, b, V, F⟩) = wantB o k i s b V F) := goodB_eq ((good_one _).trans (want_ok HO.out.1))
  have HM8 : Hid (ML wc) := HM.out.below HX8.out.be
  obtain ⟨wn, hwn⟩ : ∃ z, wantB o k i s b V F = z := ⟨_, rfl⟩
  rw [hwn] at HG ⊢
  clear hwn
  go_wp2_with fail
  refine (awake12 _ HM8.out).mono ?_
  rintro e w1 ⟨rfl, hb⟩
  have HX9 := Lib.hid (HX8.out.call hb)
  clear c0 c1 c2 c3 c4 c5 c6 hb HX8 HM8
  obtain ⟨c0, c1, c2, c3, c4, c5, c6⟩ := HX9.out.cells
  go_wp2_with fail
  refine (one_any _ _ _ _ _ _ _ _).mono ?_
  rintro e w2 ⟨v2, rfl, hn, hb2⟩
  have HX10 := Lib.hid (HX9.out.call hb2)
  have HN := Lib.hid hn
  clear c0 c1 c2 c3 c4 c5 c6 hb2 hn HX9
  go_wp2_with fail
  refine (tmay_dec v2 _ _ HN.out).mono ?_
  rintro e w3 ⟨rfl, hb3⟩
  have HX11 := Lib.hid (HX10.out.call hb3)
  clear HN hb3 HX10
  rw [HG.out]
  cases wn
  all_goals
    go_wp2
    go_ret
    exact ⟨rfl, HX11.out.be⟩
end Go.Proofs.YtlpkeinablekpaaDoor.Tm

/- The law TermNodes, walked. -/
namespace Go.Proofs.YtlpkeinablekpaaDoor.Tm
open Go.RowKit Go.Proofs.YtlpkeinablekpaaDoor Go.Proofs.YtlpkeinablekpaaDoor.Door Go.Proofs.YtlpkeinablekpaaDoor.Ev Go.Proofs.YtlpkeinablekpaaDoor.Sch Go.Proofs.YtlpkeinablekpaaDoor.Evl Go.Proofs.YtlpkeinablekpaaDoor.Ty Go.Proofs.YtlpkeinablekpaaDoor.Vd
set_option linter.unusedVariables false
set_option maxRecDepth 100000
theorem nodes_hid (op k i : Int) (s : ByteArray) (b : Bool) (v f : ByteArray) (w : World) (HM : Hid (ML w)) :
    Calls Tryd.prog 3 #[.agg #[.int .i64 op, .int .i64 k, .int .i64 i, .string s, .bool b, .string v, .string f]] w fun e w' => e = .returned (.bool true) ∧ Below w.heap.size w w' :=
  (part_TmE op k i s b v f w HM).ok (Lib.hid (part_TmE_g1 op k i s b v f w HM)) (Lib.hid (part_TmE_g2 op k i s b v f w HM)) (Lib.hid (part_TmE_g3 op k i s b v f w HM)) (Lib.hid (part_TmE_g4 op k i s b v f w HM)) (Lib.hid trivial)
end Go.Proofs.YtlpkeinablekpaaDoor.Tm

/- A part that came in, opened. -/
namespace Go.Proofs.YtlpkeinablekpaaDoor.Tm
open Go.RowKit Go.Proofs.YtlpkeinablekpaaDoor Go.Proofs.YtlpkeinablekpaaDoor.Door Go.Proofs.YtlpkeinablekpaaDoor.Ev Go.Proofs.YtlpkeinablekpaaDoor.Sch Go.Proofs.YtlpkeinablekpaaDoor.Evl Go.Proofs.YtlpkeinablekpaaDoor.Ty Go.ChangeShapes Go.WideShapes
set_option linter.unusedVariables false
set_option maxRecDepth 100000
section
variable {H : Type} {enc : TypeId × Value → H} {w : World}
theorem open_node_arg {base : Nat} {v : Value} {d : DataW H} {p : List MemPlace} (hv : Value.okWide Tryd.prog w .any base 25 v) (h : DataW.Trod enc Tryd.prog w 0 (fun _ => true) true 25 v d p) :
    ∃ x : Nd, v = .agg #[.int .i64 x.op, .int .i64 x.k, .int .i64 x.i, .string x.s, .bool x.b, .string x.v, .string x.f] := by
  obtain ⟨cs, rfl, _⟩ := okWide_struct (by kernel_rfl) hv
  obtain ⟨fuel, hf⟩ := h
  obtain ⟨x, hc, _⟩ := open_node hf
  refine ⟨x, ?_⟩
  have : cs.toList = x.cells := hc
  rw [← Array.toArray_toList (xs := cs), this]
  rfl
end
theorem nodes_any (x : Nd) {w : World} (hm : ML w) : Calls Tryd.prog 3 #[.agg #[.int .i64 x.op, .int .i64 x.k, .int .i64 x.i, .string x.s, .bool x.b, .string x.v, .string x.f]] w fun e w' => e = .returned (.bool true) ∧ Below w.heap.size w w' :=
  nodes_hid x.op x.k x.i x.s x.b x.v x.f w hm
end Go.Proofs.YtlpkeinablekpaaDoor.Tm

