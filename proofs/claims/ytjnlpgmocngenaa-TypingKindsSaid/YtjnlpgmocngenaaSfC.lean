/- What is wrong with types first, as the law reckons it. -/
import Derived.Test.YtjnlpgmocngenaaSfB
import Derived.Test.YtjnlpgmocngenaaSchC
import Derived.Deep.QuietTactic
namespace Go.Proofs.Ytjnlpgmocngenaa.Sch
open Go.RowKit Go.Proofs.Ytjnlpgmocngenaa
set_option linter.unusedVariables false
set_option maxRecDepth 100000
theorem idx_neg {l : List ByteArray} {nm : ByteArray} : idx l nm < 0 ↔ ∀ i (h : i < l.length), l[i].toList ≠ nm.toList := by
  constructor
  · intro h i hi
    unfold idx at h
    cases hf : l.findIdx? (fun x => x.toList == nm.toList) with
    | none =>
      rw [List.findIdx?_eq_none_iff] at hf
      have := hf l[i] (List.getElem_mem hi)
      simpa using this
    | some k =>
      rw [hf] at h
      dsimp only at h
      omega
  · intro h
    rw [idx_miss h]
    decide
theorem nof_take {l : List ByteArray} {nm : ByteArray} {k : Nat} (hk : k ≤ l.length) : NoF l nm k ↔ idx (l.take k) nm < 0 := by
  rw [idx_neg]
  constructor
  · intro h i hi
    have hl : i < l.length := by rw [List.length_take] at hi; omega
    rw [List.getElem_take]
    exact h i hl (by rw [List.length_take] at hi; omega)
  · intro h j hj hjk
    have := h j (by rw [List.length_take]; omega)
    rwa [List.getElem_take] at this
theorem map_take (fs : List Fld) (k : Nat) : (fs.take k).map Prod.fst = (fs.map Prod.fst).take k := by rw [List.map_take]
theorem map_takeT (ts : List Ty) (k : Nat) : (ts.take k).map Prod.fst = (ts.map Prod.fst).take k := by rw [List.map_take]
theorem not_nof {l : List ByteArray} {nm : ByteArray} {k i : Nat} (hi : i < l.length) (hik : i < k) (he : l[i].toList = nm.toList) : ¬ NoF l nm k := fun h => h i hi hik he
/-- How what is wrong is told. -/
def WrPost (w : World) (ts : List Ty) (e : Ending) (w' : World) : Prop := ∃ c, e = .returned (.int .i64 c) ∧ NewR ts c ∧ Below w.heap.size w w'
theorem wr_input {w w' : World} {ts : List Ty} {k : Nat} (hl : ts.length ≤ 16) (hk : k < ts.length) (hf : Fine ts k) (hm : ¬ MayT ts[k]) (hb : Below w.heap.size w w') : WrPost w ts (.returned (.int .i64 1)) w' := ⟨1, rfl, .inr (.inl ⟨hl, k, hk, hf, hm, rfl⟩), hb⟩
theorem wr_twice {w w' : World} {ts : List Ty} {k q : Nat} (hl : ts.length ≤ 16) (hk : k < ts.length) (hf : Fine ts k) (hm : MayT ts[k]) (hq : q < k) (he : (ts[q]'(by omega)).1.toList = ts[k].1.toList) (hb : Below w.heap.size w w') : WrPost w ts (.returned (.int .i64 4)) w' := by
  refine ⟨4, rfl, .inr (.inr (.inl ⟨hl, k, hk, hf, hm, ?_, rfl⟩)), hb⟩
  have hn : ¬ idx ((ts.take k).map Prod.fst) ts[k].1 < 0 := by
    rw [map_takeT, ← nof_take (by rw [List.length_map]; omega)]
    exact not_nof (i := q) (by rw [List.length_map]; omega) hq (by simpa using he)
  omega
theorem wr_ok {w w' : World} {ts : List Ty} (hl : ts.length ≤ 16) (hf : Fine ts ts.length) (hb : Below w.heap.size w w') : WrPost w ts (.returned (.int .i64 0)) w' := ⟨0, rfl, .inr (.inr (.inr ⟨hl, hf, rfl⟩)), hb⟩
theorem not_may_name {t : Ty} (h : nameB t.1.data.toList = false) : ¬ MayT t := fun m => by have := m.1; rw [h] at this; cases this
theorem not_may_field {t : Ty} {j : Nat} (hj : j < t.2.length) (h : ¬ OkF t.2 j hj) : ¬ MayT t := fun m => h (m.2.2 j hj)
theorem not_ok_twin {fs : List Fld} {j i : Nat} (hj : j < fs.length) (hi : i < j) (he : (fs[i]'(by omega)).1.toList = fs[j].1.toList) : ¬ OkF fs j hj := fun h => by
  have h3 := h.2.2
  rw [map_take, ← nof_take (by rw [List.length_map]; omega)] at h3
  exact not_nof (i := i) (by rw [List.length_map]; omega) hi (by simpa using he) h3
theorem ok_field {fs : List Fld} {j : Nat} (hj : j < fs.length) (h1 : nameB fs[j].1.data.toList = true) (h2 : kindB fs[j].2 = true) (h3 : NoF (fs.map Prod.fst) fs[j].1 j) : OkF fs j hj :=
  ⟨h1, h2, by rw [map_take, ← nof_take (by rw [List.length_map]; omega)]; exact h3⟩
theorem allF_succ {fs : List Fld} {j : Nat} (hj : j < fs.length) (ha : AllF fs j) (h : OkF fs j hj) : AllF fs (j + 1) := fun i hi hij => by
  by_cases e : i = j
  · subst e; exact h
  · exact ha i hi (by omega)
theorem fine_succ {ts : List Ty} {k : Nat} (hk : k < ts.length) (hf : Fine ts k) (hm : MayT ts[k]) (h : NoF (ts.map Prod.fst) ts[k].1 k) : Fine ts (k + 1) := fun i hi hik => by
  by_cases e : i = k
  · subst e; exact ⟨hm, by rw [map_takeT, ← nof_take (by rw [List.length_map]; omega)]; exact h⟩
  · exact hf i hi (by omega)
set_option maxHeartbeats 4000000 in
theorem wrong_any (vl : Value) (ts : List Ty) (w : World) (hts : Ts w w.heap.size vl ts) (hl : ts.length ≤ 16) (h8 : ∀ t ∈ ts, t.2.length ≤ 8) :
    Calls Try.prog 11 #[vl] w (WrPost w ts) := by
  have HT := Lib.hid hts
  obtain ⟨A, c, rfl, hnc, hcm, hx0⟩ := hts
  have H8 := Lib.hid h8
  obtain ⟨n, hn⟩ : ∃ n, ts.length = n := ⟨_, rfl⟩
  rw [hn] at HT hnc hl ⊢
  have HN := Lib.hid hn
  clear hx0 h8 hn
  go_enter Try.func11, Try.ntmps11
  go_wp2
  go_loopw [3, 4, 5, 6, 7] (fun v3 s4 s5 s6 s7 wx => ∃ k : Nat, k ≤ n ∧ v3 = .int .i64 k ∧ Hid (Below w.heap.size w wx) ∧ Hid (Fine ts k)) (fun v3 _ _ _ _ _ => n - (intOf v3).toNat)
  case atStart => exact ⟨0, by omega, rfl, Lib.hid (Below.refl _ _), Lib.hid (fun j h hj => absurd hj (by omega))⟩
  case round =>
    obtain ⟨k, hkn, rfl, HB, HF⟩ := hrel
    by_cases hlt : k < n
    · have hk1 : (k : Int) < (n : Int) := by omega
      have hkl : k < ts.length := by rw [HN.out]; exact hlt
      obtain ⟨A', c', e1, hx1, hx2, h3⟩ := HT.out.below HB.out (Nat.le_refl _)
      injection e1 with e1 e2 e3
      subst e1 e3
      clear hx1 hx2 e2
      obtain ⟨g, o, fv, rfl, hg, c0, c1, hf⟩ := h3 k hkl
      have h8k := H8.out _ (List.getElem_mem hkl)
      have hgw : g < wr.heap.size := Nat.lt_of_lt_of_le hg HB.out.size
      obtain ⟨tn, htn⟩ : ∃ tn, ts[k].1 = tn := ⟨_, rfl⟩
      obtain ⟨tf, htf⟩ : ∃ tf, ts[k].2 = tf := ⟨_, rfl⟩
      rw [htn] at c0
      rw [htf] at hf h8k
      obtain ⟨A2, c2, rfl, hn2, hcm2, h4⟩ := hf
      have HTN := Lib.hid htn
      have HTF := Lib.hid htf
      have HH3 := Lib.hid h3
      have HH4 := Lib.hid h4
      have HC0 := Lib.hid c0
      have HC1 := Lib.hid c1
      clear htn htf h3 h4 c1
      obtain ⟨rn, hrn⟩ : ∃ r, nameB tn.data.toList = r := ⟨_, rfl⟩
      have HRN := Lib.hid hrn
      clear hrn
      obtain ⟨V, rfl⟩ : ∃ V, V = wr := ⟨_, rfl⟩
      go_wp2_with fail
      refine (refName_is tn rn _ HRN.out).mono ?_
      rintro e w1 ⟨rfl, hb1⟩
      have HB1 := Lib.hid hb1
      clear hb1 c0
      cases rn with
      | false =>
        go_wp2
        go_ret
        exact wr_input (by rw [HN.out]; exact hl) hkl HF.out (not_may_name (by rw [HTN.out]; exact HRN.out)) (HB.out.trans (HB1.out.mono HB.out.size))
      | true =>
        obtain ⟨fl, hfl⟩ : ∃ fl, tf.length = fl := ⟨_, rfl⟩
        rw [hfl] at hn2 h8k
        have HC1' := Lib.hid (hfl ▸ HC1.out : V.cell? ⟨g, o + k * 2 + 1, none⟩ = some (.slice A2 fl c2))
        have HFL := Lib.hid hfl
        clear hfl HC1
        have d1 := (HB1.out.cell (p := ⟨g, o + k * 2 + 1, none⟩) hgw).trans HC1'.out
        go_wp2
        clear d1
        go_loopw [4, 5, 6] (fun v4 s5 s6 wx => ∃ j : Nat, j ≤ fl ∧ v4 = .int .i64 j ∧ Hid (Below V.heap.size V wx) ∧ Hid (AllF tf j)) (fun v4 _ _ _ => fl - (intOf v4).toNat)
        case atStart => exact ⟨0, by omega, rfl, HB1, Lib.hid (fun i h hi => absurd hi (by omega))⟩
        case round =>
          clear HB1
          obtain ⟨j, hjl, rfl, HBx, HA⟩ := hrel
          have d1 := (HBx.out.cell (p := ⟨g, o + k * 2 + 1, none⟩) hgw).trans HC1'.out
          have hVr := HBx.out.size
          obtain ⟨X, rfl⟩ : ∃ X, X = wr := ⟨_, rfl⟩
          by_cases hjf : j < fl
          · have hj1 : (j : Int) < (fl : Int) := by omega
            have hjt : j < tf.length := by rw [HFL.out]; exact hjf
            obtain ⟨g3, o3, rfl, hg3, e0, e1⟩ := HH4.out j hjt
            have hg3V : g3 < V.heap.size := Nat.lt_of_lt_of_le hg3 HB.out.size
            obtain ⟨fnm, hfnm⟩ : ∃ x, tf[j].1 = x := ⟨_, rfl⟩
            obtain ⟨fkd, hfkd⟩ : ∃ x, tf[j].2 = x := ⟨_, rfl⟩
            rw [hfnm] at e0
            rw [hfkd] at e1
            have f0 := (HBx.out.cell (p := ⟨g3, o3 + j * 2, none⟩) hg3V).trans e0
            have f1 := (HBx.out.cell (p := ⟨g3, o3 + j * 2 + 1, none⟩) hg3V).trans e1
            have HFNM := Lib.hid hfnm
            have HFKD := Lib.hid hfkd
            clear hfnm hfkd e0 e1
            obtain ⟨rf, hrf⟩ : ∃ r, nameB fnm.data.toList = r := ⟨_, rfl⟩
            have HRF := Lib.hid hrf
            clear hrf
            go_wp2_with fail
            refine (refName_is fnm rf _ HRF.out).mono ?_
            rintro e w2 ⟨rfl, hb2⟩
            have hr2 : Row w2 X.heap.size 41 #[.string fnm, .int .i64 fkd] := Row.below (Row.made X _ _) hb2 (by simp)
            have b0 : w2.cell? ⟨X.heap.size, 0, none⟩ = some (.string fnm) := (hr2.cell 0).trans rfl
            have b1 : w2.cell? ⟨X.heap.size, 1, none⟩ = some (.int .i64 fkd) := (hr2.cell 1).trans rfl
            have hX2 : Below X.heap.size X w2 := ((Below.refl _ X).alloc (Nat.le_refl _) _).trans (hb2.mono (by simp))
            have HV2 := Lib.hid (HBx.out.trans (hX2.mono HBx.out.size))
            have HR2 := Lib.hid hr2
            clear hb2 hr2 hX2 f0 f1 d1
            have hw2 : Below w.heap.size w w2 := HB.out.trans (HV2.out.mono HB.out.size)
            have HW2 := Lib.hid hw2
            clear hw2
            cases rf with
            | false =>
              go_wp2
              go_ret
              exact wr_input (by rw [HN.out]; exact hl) hkl HF.out (not_may_field (t := ts[k]) (j := j) (by rw [HTF.out]; exact hjt) (fun h => by have := h.1; simp only [HTF.out, HFNM.out, HRF.out] at this; cases this)) HW2.out
            | true =>
              by_cases hkd : 1 ≤ fkd ∧ fkd ≤ 3
              · obtain ⟨hkd1, hkd2⟩ := hkd
                have hq1 : decide (fkd < 1) = false := decide_eq_false (by omega)
                have hq2 : decide (3 < fkd) = false := decide_eq_false (by omega)
                go_wp2
                go_loopw [6] (fun v6 wx => ∃ i : Nat, i ≤ j ∧ v6 = .int .i64 i ∧ Hid (NoF (tf.map Prod.fst) fnm i) ∧ Hid (∃ d, wx = w2.drewN d)) (fun v6 _ => j - (intOf v6).toNat)
                case atStart => exact ⟨0, by omega, rfl, Lib.hid (fun i h hi => absurd hi (by omega)), Lib.hid ⟨0, rfl⟩⟩
                case round =>
                  obtain ⟨i, hij, rfl, HNF, hD⟩ := hrel
                  obtain ⟨d, rfl⟩ := hD.out
                  clear hD
                  have p1 := (HV2.out.cell (p := ⟨g, o + k * 2 + 1, none⟩) hgw).trans HC1'.out
                  by_cases hijl : i < j
                  · have hi1 : (i : Int) < (j : Int) := by omega
                    have hi2 : (i : Int) < (fl : Int) := by omega
                    have hit : i < tf.length := by rw [HFL.out]; omega
                    obtain ⟨g4, o4, e4, hg4, e0, e1⟩ := HH4.out i hit
                    injection e4 with e4
                    injection e4 with e4 e5
                    subst e4 e5
                    obtain ⟨inm, hinm⟩ : ∃ x, tf[i].1 = x := ⟨_, rfl⟩
                    rw [hinm] at e0
                    have f0 := (HV2.out.cell (p := ⟨g3, o3 + i * 2, none⟩) hg3V).trans e0
                    have HINM := Lib.hid hinm
                    clear e0 e1 hinm
                    by_cases he : inm.toList = fnm.toList
                    · have hbe : (inm.toList == fnm.toList) = true := by simpa using he
                      have HE := Lib.hid he
                      clear he
                      go_upto_region 15 with fail
                      go_quiet (fail)
                      go_wp2
                      go_ret
                      exact wr_input (by rw [HN.out]; exact hl) hkl HF.out (not_may_field (t := ts[k]) (j := j) (by rw [HTF.out]; exact hjt) (by simp only [HTF.out]; exact not_ok_twin hjt hijl (by rw [HINM.out, HFNM.out]; exact HE.out))) (below_dN HW2.out _)
                    · have hbe : (inm.toList == fnm.toList) = false := by simpa using he
                      have HNF2 := Lib.hid (NoF.succ HNF.out (by rw [List.length_map]; exact hit) (by rw [List.getElem_map, HINM.out]; exact hbe))
                      clear he
                      go_upto_region 15 with fail
                      go_quiet (fail)
                      go_wp2
                      go_roundw
                      case rel => exact ⟨i + 1, by omega, by go_num, HNF2, Lib.hid ⟨_, rfl⟩⟩
                      case measure => simp [intOf]; omega
                  · obtain rfl : i = j := by omega
                    have hi1 : ¬ (i : Int) < (i : Int) := by omega
                    have hok := Lib.hid (allF_succ hjt HA.out (ok_field hjt (by rw [HFNM.out]; exact HRF.out) (by rw [HFKD.out]; unfold kindB; exact decide_eq_true ⟨hkd1, hkd2⟩) (by rw [HFNM.out]; exact HNF.out)))
                    clear p1
                    go_wp2
                    go_roundw
                    case rel => exact ⟨i + 1, by omega, by go_num, Lib.hid (below_dN HV2.out _), hok⟩
                    case measure => simp [intOf]; omega
              · have hbad : ¬ OkF tf j hjt := fun h => by
                  have h2 := h.2.1
                  rw [HFKD.out] at h2
                  unfold kindB at h2
                  exact hkd (of_decide_eq_true h2)
                have HBAD := Lib.hid hbad
                clear hbad
                by_cases hq1 : fkd < 1
                · go_wp2
                  go_ret
                  exact wr_input (by rw [HN.out]; exact hl) hkl HF.out (not_may_field (t := ts[k]) (j := j) (by rw [HTF.out]; exact hjt) (by simp only [HTF.out]; exact HBAD.out)) HW2.out
                · have hq2 : decide (fkd < 1) = false := decide_eq_false hq1
                  have hq3 : decide (3 < fkd) = true := decide_eq_true (by omega)
                  clear hkd
                  go_wp2
                  go_ret
                  exact wr_input (by rw [HN.out]; exact hl) hkl HF.out (not_may_field (t := ts[k]) (j := j) (by rw [HTF.out]; exact hjt) (by simp only [HTF.out]; exact HBAD.out)) HW2.out
          · obtain rfl : j = fl := by omega
            have hj1 : ¬ (j : Int) < (j : Int) := by omega
            have hmay := Lib.hid (show MayT ts[k] from ⟨by rw [HTN.out]; exact HRN.out, by rw [HTF.out, HFL.out]; exact h8k, fun i hi => by simp only [HTF.out] at hi ⊢; exact HA.out i hi (by rw [HFL.out] at hi; exact hi)⟩)
            have hwX := Lib.hid (HB.out.trans (HBx.out.mono HB.out.size))
            have dk := (HBx.out.cell (p := ⟨g, o + k * 2, none⟩) hgw).trans HC0.out
            go_wp2
            clear d1
            go_loopw [7] (fun v7 wx => ∃ q : Nat, q ≤ k ∧ v7 = .int .i64 q ∧ Hid (NoF (ts.map Prod.fst) tn q) ∧ Hid (∃ d, wx = X.drewN d)) (fun v7 _ => k - (intOf v7).toNat)
            case atStart => exact ⟨0, by omega, rfl, Lib.hid (fun i h hi => absurd hi (by omega)), Lib.hid ⟨0, rfl⟩⟩
            case round =>
              obtain ⟨q, hqk, rfl, HNF, hD⟩ := hrel
              obtain ⟨d, rfl⟩ := hD.out
              clear hD
              by_cases hqkl : q < k
              · have hi1 : (q : Int) < (k : Int) := by omega
                have hi2 : (q : Int) < (n : Int) := by omega
                have hqt : q < ts.length := by rw [HN.out]; omega
                obtain ⟨g4, o4, fv4, e4, hg4, e0, hrest⟩ := HH3.out q hqt
                injection e4 with e4
                injection e4 with e4 e5
                subst e4 e5
                obtain ⟨qnm, hqnm⟩ : ∃ x, ts[q].1 = x := ⟨_, rfl⟩
                rw [hqnm] at e0
                have f0 := (HBx.out.cell (p := ⟨g, o + q * 2, none⟩) hgw).trans e0
                have HQNM := Lib.hid hqnm
                clear e0 hrest hqnm
                by_cases he : qnm.toList = tn.toList
                · have hbe : (qnm.toList == tn.toList) = true := by simpa using he
                  have HE := Lib.hid he
                  clear he
                  go_upto_region 20 with fail
                  go_quiet (fail)
                  go_wp2
                  go_ret
                  exact wr_twice (by rw [HN.out]; exact hl) hkl HF.out hmay.out hqkl (by rw [HQNM.out, HTN.out]; exact HE.out) (below_dN hwX.out _)
                · have hbe : (qnm.toList == tn.toList) = false := by simpa using he
                  have HNF2 := Lib.hid (NoF.succ HNF.out (by rw [List.length_map]; exact hqt) (by rw [List.getElem_map, HQNM.out]; exact hbe))
                  clear he
                  go_upto_region 20 with fail
                  go_quiet (fail)
                  go_wp2
                  go_roundw
                  case rel => exact ⟨q + 1, by omega, by go_num, HNF2, Lib.hid ⟨_, rfl⟩⟩
                  case measure => simp [intOf]; omega
              · obtain rfl : q = k := by omega
                have hi1 : ¬ (q : Int) < (q : Int) := by omega
                have hok := Lib.hid (fine_succ hkl HF.out hmay.out (by rw [HTN.out]; exact HNF.out))
                clear dk
                go_wp2
                go_roundw
                case rel => exact ⟨q + 1, by omega, by go_num, Lib.hid (below_dN hwX.out _), hok⟩
                case measure => simp [intOf]; omega
    · obtain rfl : k = n := by omega
      have hk1 : ¬ (k : Int) < (k : Int) := by omega
      go_wp2
      go_ret
      exact wr_ok (by rw [HN.out]; exact hl) (by rw [HN.out]; exact HF.out) HB.out
end Go.Proofs.Ytjnlpgmocngenaa.Sch
