/- What a predicate comes to: eval.Eval. -/
import Derived.Test.YtopbildpeojgoaaEvlH
import Derived.Deep.RegionLaw
import Derived.Deep.Cut
import Derived.Deep.DeepCutAuto
namespace Go.Proofs.Ytopbildpeojgoaa.Evl
open Go.RowKit Go.Proofs.Ytopbildpeojgoaa Go.Proofs.Ytopbildpeojgoaa.Ev Go.Proofs.Ytopbildpeojgoaa.Sch Go.Proofs.Ytopbildpeojgoaa.Ty Go.Proofs.Ytopbildpeojgoaa.Num
set_option linter.unusedVariables false
set_option maxRecDepth 100000
/-- What a part came to, in a block of its own. -/
def Px (w W : World) (b : Nat) (k i : Int) (s : ByteArray) (t : Bool) : Prop := Row W b 57 #[.int .i64 k, .int .i64 i, .string s, .bool t] ∧ Below w.heap.size w W
theorem px_early {w W : World} {k i : Int} {s : ByteArray} {t : Bool} (h : Below (w.heap.size + 1) (w.alloc (.cells #[.int .i64 0, .int .i64 0, .string ⟨#[]⟩, .bool false] 57)) W) :
    Px w ((((W.setCell ⟨w.heap.size, 0, none⟩ (.int .i64 k)).setCell ⟨w.heap.size, 1, none⟩ (.int .i64 i)).setCell ⟨w.heap.size, 2, none⟩ (.string s)).setCell ⟨w.heap.size, 3, none⟩ (.bool t)) w.heap.size k i s t := by
  have hr : Rz W w.heap.size := Row.below (Row.made w _ _) h (by omega)
  have hb : Below w.heap.size w W := ((Below.refl _ w).alloc (Nat.le_refl _) _).trans (h.mono (by omega))
  exact ⟨put4 hr _ _ _ _, below4 hb _ (Nat.le_refl _) _ _ _ _⟩
theorem px_late {w W : World} {k i : Int} {s : ByteArray} {t : Bool} (h : Below w.heap.size w W) : Px w (W.alloc (.cells #[.int .i64 k, .int .i64 i, .string s, .bool t] 57)) W.heap.size k i s t := ⟨Row.made _ _ _, h.alloc h.size _⟩
theorem drewS {w : World} {e : TypeId} {size n : Nat} {v : Value} {xs : List Value} {ob : Option Nat} (h : Seg w e size v n xs ob) : Seg w.drew e size v n xs ob := h.turns (Turns.of_below ((Below.refl _ w).drew)) (fun _ _ x => x)
theorem news4 {W : World} {b : Nat} {k i : Int} {s : ByteArray} {t : Bool} (h : Row W b 57 #[.int .i64 k, .int .i64 i, .string s, .bool t]) : ∀ j u, ((⟨k, i, s, t⟩ : VV).cells)[j]? = some u → W.cell? ((⟨b, 0, none⟩ : Addr).add j) = some u := by
  intro j u hj
  rw [Addr.add_lit, Nat.zero_add, h.cell]
  simpa [VV.cells] using hj
/-- What the loop holds. -/
structure Ke (w wr : World) (ts : List Ty) (es : List Bn) (l : List Nd) (v : Value) (k : Nat) (R : Option VV) : Prop where
  st : ∃ st, Kv w wr v st ∧ dep (l.take k) = st.length ∧ evM ts es (l.drop k) st = R ∧ ∀ x ∈ st, In64 x.i
set_option maxHeartbeats 8000000 in
theorem eval_good (p : Option Addr) (ts : List Ty) (v : Value) (l : List Nd) (ev : Value) (es : List Bn) (w : World) (hs : Sc w w.heap.size p ts) (he : En w w.heap.size ev es) (hl : Ns w w.heap.size v l) (hg : Ty.Good l) (hli : ∀ n ∈ l, In64 n.i) (hei : EnB es) :
    Calls Try.prog 32 #[.pointer p, v, ev] w (RPost w (evM ts es l [])) := by
  obtain ⟨w0, hw0⟩ : ∃ w0, w.alloc (.cells #[.int .i64 0, .int .i64 0, .string ⟨#[]⟩, .bool false] 57) = w0 := ⟨_, rfl⟩
  have hX : Below w.heap.size w w0 := by rw [← hw0]; exact (Below.refl _ w).alloc (Nat.le_refl _) _
  have HZ : Hid (∀ X, Below w0.heap.size w0 X → Rz X w.heap.size) := Lib.hid (fun X h => by
    rw [← hw0] at h
    exact Row.below (Row.made w _ _) h (by simp))
  have HM := Lib.hid (tmay_yes v l w0 (hl.below hX hX.size) hg)
  rw [← hw0] at HM
  have HW0 := Lib.hid hw0
  have HX := Lib.hid hX
  have HS := Lib.hid (hs.below hX hX.size)
  have HE := Lib.hid (he.below hX hX.size)
  have HL := Lib.hid (hl.below hX hX.size)
  have HG := Lib.hid hg
  have HLI := Lib.hid hli
  have HEI := Lib.hid hei
  obtain ⟨R, hR⟩ : ∃ R, evM ts es l [] = R := ⟨_, rfl⟩
  have HR := Lib.hid hR
  obtain ⟨eA, ec, rfl, hx1, hx2, hx3⟩ := he
  obtain ⟨A, c, rfl, hnc, hcm, hx4⟩ := hl
  obtain ⟨n, hn⟩ : ∃ n, l.length = n := ⟨_, rfl⟩
  have h64 := hg.len
  rw [hn] at HL HM hnc h64 ⊢
  rw [hR]
  have HN := Lib.hid hn
  clear hx1 hx2 hx3 hx4 hn hg hs hR hX hli hei hw0
  go_enter Try.func32, Try.ntmps32
  go_wp2_with fail
  refine HM.out.mono ?_
  rintro e w1 ⟨rfl, hb1⟩
  rw [HW0.out] at hb1
  have HK0 : Hid (Ke w0 w1 ts es l (.slice none 0 0) 0 R) := Lib.hid ⟨[], ⟨hb1, .inl ⟨rfl, rfl⟩⟩, rfl, HR.out, by simp⟩
  clear hb1 HM HW0
  go_wp2
  go_loopw [20, 8, 10, 11, 12, 13] (fun v20 v8 s10 s11 s12 s13 wx => ∃ k : Nat, k ≤ n ∧ v20 = .int .i64 k ∧ Hid (Ke w0 wx ts es l v8 k R)) (fun v20 _ _ _ _ _ _ => n - (intOf v20).toNat)
  case atStart => exact ⟨0, by omega, rfl, HK0⟩
  case round =>
    clear HK0
    obtain ⟨k, hkn, rfl, HK⟩ := hrel
    obtain ⟨V, rfl⟩ : ∃ V, V = wr := ⟨_, rfl⟩
    obtain ⟨st, hks, hdep, hkr, hsi⟩ := HK.out.st
    obtain ⟨ob, hsg, hob⟩ := hks.seg
    obtain ⟨kA, kc, rfl, hk1, hk2⟩ := hsg.form
    have hk9 : kc ≤ 9223372036854775807 := by unfold maxLen at hk2; omega
    obtain ⟨d, hd⟩ : ∃ d, st.length = d := ⟨_, rfl⟩
    have hbd := HG.out.bd k (by rw [HN.out]; exact hkn)
    rw [hdep, hd] at hbd
    rw [hd] at hsg hk1 ⊢
    by_cases hlt : k < n
    · have hki : (k : Int) < (n : Int) := by omega
      have hkl : k < l.length := by rw [HN.out]; exact hlt
      obtain ⟨A', c', e1, hx1, hx2, h3⟩ := HL.out.below hks.be (Nat.le_refl _)
      injection e1 with e1 e2 e3
      subst e1 e3
      clear e2 hx1 hx2
      obtain ⟨g, o, rfl, hgw, hcl⟩ := h3 k hkl
      have hok := HG.out.ok k hkl
      have hlow := HG.out.low k hkl
      have hp2 := hok.parts
      have hdt := dep_take hkl
      rw [hdep, hd] at hlow hdt
      have hin := HLI.out l[k] (List.getElem_mem hkl)
      have hdrop : l.drop k = l[k] :: l.drop (k + 1) := by rw [List.getElem_cons_drop]
      rw [hdrop] at hkr
      obtain ⟨nd, hnd⟩ : ∃ nd, l[k] = nd := ⟨_, rfl⟩
      rw [hnd] at hcl hok hlow hp2 hdt hkr hin
      obtain ⟨pp, hpp⟩ : ∃ pp : Nat, partsI nd.op = pp := ⟨(partsI nd.op).toNat, by omega⟩
      obtain ⟨cu, hcu⟩ : ∃ cu : Nat, d - pp = cu := ⟨_, rfl⟩
      have hcut : st.length - (partsI nd.op).toNat = cu := by rw [hpp, Int.toNat_natCast, hd, hcu]
      rw [hpp] at hlow hp2 hdt
      have hcud : cu ≤ d := by omega
      have hcui : (d : Int) - (pp : Int) = (cu : Int) := by omega
      obtain ⟨r, hr⟩ : ∃ r, partM ts es nd (st.drop cu) = r := ⟨_, rfl⟩
      have hlen : ((st.drop cu).length : Int) = partsI nd.op := by rw [hpp, List.length_drop, hd]; omega
      have HDEP : Hid (∀ x : VV, dep (l.take (k + 1)) = ((st.take cu ++ [x]).length : Int)) := Lib.hid (fun x => by rw [hdt, List.length_append, List.length_take, hd]; simp; omega)
      have HNO : Hid (r = none → R = none) := Lib.hid (fun h => by rw [← hkr]; exact evM_no hcut (hr.trans h))
      have HYES : Hid (∀ y, r = some y → evM ts es (l.drop (k + 1)) (st.take cu ++ [y]) = R ∧ ∀ x ∈ st.take cu ++ [y], In64 x.i) := Lib.hid (fun y h => by
        refine ⟨by rw [← hkr]; exact (evM_yes hcut (hr.trans h)).symm, fun x hx => ?_⟩
        rcases List.mem_append.1 hx with hx | hx
        · exact hsi x (List.mem_of_mem_take hx)
        · rw [List.mem_singleton] at hx; subst hx; exact partM_in hin HEI.out (hr.trans h))
      have HHR := Lib.hid hr
      have HOK := Lib.hid hok
      have HPP := Lib.hid hpp
      have HKS := Lib.hid hks
      have HSG := Lib.hid hsg
      have HOB := Lib.hid hob
      have HD := Lib.hid hd
      have HSI := Lib.hid hsi
      have HLEN := Lib.hid hlen
      have c0 := hcl 0 (.int .i64 nd.op) rfl
      have c1 := hcl 1 (.int .i64 nd.k) rfl
      have c2 := hcl 2 (.int .i64 nd.i) rfl
      have c3 := hcl 3 (.string nd.s) rfl
      have c4 := hcl 4 (.bool nd.b) rfl
      have c5 := hcl 5 (.string nd.v) rfl
      have c6 := hcl 6 (.string nd.f) rfl
      simp only [Nat.add_zero] at c0
      clear hcl h3 hnd hpp hok hdt hkr hks hsg hob hd hr hdrop hdep HK hk2 hlow hp2 hcu hsi hlen hcut hin
      go_wp2_with fail
      refine (parts_is nd.op pp _ HPP.out).mono ?_
      rintro e w2 ⟨rfl, rfl⟩
      have hB3 : Below V.heap.size V (V.alloc (.cells #[.int .i64 nd.op, .int .i64 nd.k, .int .i64 nd.i, .string nd.s, .bool nd.b, .string nd.v, .string nd.f] 86)) := (Below.refl _ V).alloc (Nat.le_refl _) _
      have hr3 : Row (V.alloc (.cells #[.int .i64 nd.op, .int .i64 nd.k, .int .i64 nd.i, .string nd.s, .bool nd.b, .string nd.v, .string nd.f] 86)) V.heap.size 86 #[.int .i64 nd.op, .int .i64 nd.k, .int .i64 nd.i, .string nd.s, .bool nd.b, .string nd.v, .string nd.f] := Row.made _ _ _
      have HKS3 := Lib.hid (HKS.out.call hB3)
      have HSG3 := Lib.hid (HSG.out.turns (Turns.of_below hB3) (fun _ _ x => x))
      have HR3 := Lib.hid hr3
      clear hB3 hr3 c0 c1 c2 c3 c4 c5 c6
      go_upto_region 8 with fail
      generalize (V.alloc (.cells #[.int .i64 nd.op, .int .i64 nd.k, .int .i64 nd.i, .string nd.s, .bool nd.b, .string nd.v, .string nd.f] 86)) = W3 at HKS3 HSG3 HR3 ⊢
      generalize V.heap.size = tb at HR3 ⊢
      have e0 : W3.cell? ⟨tb, 0, none⟩ = some (.int .i64 nd.op) := (HR3.out.cell 0).trans rfl
      have e1 : W3.cell? ⟨tb, 1, none⟩ = some (.int .i64 nd.k) := (HR3.out.cell 1).trans rfl
      have e2 : W3.cell? ⟨tb, 2, none⟩ = some (.int .i64 nd.i) := (HR3.out.cell 2).trans rfl
      have e3 : W3.cell? ⟨tb, 3, none⟩ = some (.string nd.s) := (HR3.out.cell 3).trans rfl
      have e4 : W3.cell? ⟨tb, 4, none⟩ = some (.bool nd.b) := (HR3.out.cell 4).trans rfl
      have e5 : W3.cell? ⟨tb, 5, none⟩ = some (.string nd.v) := (HR3.out.cell 5).trans rfl
      have e6 : W3.cell? ⟨tb, 6, none⟩ = some (.string nd.f) := (HR3.out.cell 6).trans rfl
      have htb := HR3.out.lt
      have hcui2 : (cu : Int) ≤ (d : Int) := by omega
      have hcuz : (0 : Int) ≤ (cu : Int) := by omega
      obtain ⟨⟨rk, ri, rs, rb⟩, hq⟩ : ∃ x, r.getD zeroV = x := ⟨_, rfl⟩
      obtain ⟨ro, hro⟩ : ∃ x, r.isSome = x := ⟨_, rfl⟩
      have HRO : Hid (ro = true → r = some ⟨rk, ri, rs, rb⟩) := Lib.hid (fun h => by
        cases r with
        | none => rw [h] at hro; cases hro
        | some y => rw [← hq]; rfl)
      have HRN : Hid (ro = false → r = none) := Lib.hid (fun h => by
        cases r with
        | none => rfl
        | some y => rw [h] at hro; cases hro)
      have hPart : Hid (∀ (v : Value) (W : World), Below W3.heap.size W3 W → VL W3 W3.heap.size v (st.drop cu) → Calls Try.prog 93 #[.pointer p, .slice eA es.length ec, .agg #[.int .i64 nd.op, .int .i64 nd.k, .int .i64 nd.i, .string nd.s, .bool nd.b, .string nd.v, .string nd.f], v] W (fun e w' => e = .returned (.tuple #[.agg #[.int .i64 rk, .int .i64 ri, .string rs, .bool rb], .bool ro]) ∧ Below W.heap.size W w')) := Lib.hid (fun v W hW hv => by
        have hw : Below w0.heap.size w0 W := HKS3.out.be.trans (hW.mono HKS3.out.be.size)
        have hh := part_any p ts _ es nd v _ W (HS.out.below hw hw.size) (HE.out.below hw hw.size) HOK.out (hv.below hW hW.size) HLEN.out (fun x hx => HSI.out x (List.mem_of_mem_drop hx))
        unfold RPost at hh
        rw [HHR.out, hq, hro] at hh
        exact hh)
      have hsl : (∃ v36 : Value, VL W3 W3.heap.size v36 (st.drop cu) ∧ ((kA = none ∧ d = 0 ∧ cu = 0 ∧ kc = 0 ∧ v36 = .slice none 0 0) ∨ (∃ g1 o1, kA = some ⟨g1, o1, none⟩ ∧ (cu < kc ∧ ¬ kc = cu) ∧ v36 = .slice (some ⟨g1, o1 + cu * 4, none⟩) (d - cu) (kc - cu)) ∨ (∃ g1 o1, kA = some ⟨g1, o1, none⟩ ∧ cu = d ∧ d = kc ∧ v36 = .slice (some ⟨g1, o1, none⟩) 0 0))) := by
        rcases HKS3.out.sg with ⟨hst, hv⟩ | ⟨hst, b, hsb, hbb⟩
        · injection hv with q1 q2 q3
          have hd0 : d = 0 := by rw [← HD.out, hst]; rfl
          refine ⟨.slice none 0 0, ?_, .inl ⟨q1, hd0, by omega, q3, rfl⟩⟩
          rw [hst, List.drop_nil]
          exact VL.zero _ _
        · obtain ⟨g1, o1, cap, q1, q2, q3, q4, q5, q6⟩ := hsb.shape (List.length_pos_iff.2 hst)
          injection q1 with q1 q1b q1c
          have hdd : (st.drop cu).length = d - cu := by rw [List.length_drop, HD.out]
          by_cases hcc : cu < kc
          · refine ⟨_, ?_, .inr (.inl ⟨g1, o1, q1, ⟨hcc, by omega⟩, rfl⟩)⟩
            have hc := HSG3.out.cut hcud hcc
            rw [q1] at hc
            simp only [Option.map_some, Addr.add_lit] at hc
            rw [vcells_drop] at hc
            exact vl_of_seg hc hdd
          · have hcc2 : cu = kc := by omega
            refine ⟨_, ?_, .inr (.inr ⟨g1, o1, q1, by omega, by omega, rfl⟩)⟩
            have : st.drop cu = [] := List.drop_of_length_le (by rw [HD.out]; omega)
            rw [this]
            exact ⟨_, 0, rfl, by simp, by omega, fun k hk => by simp at hk⟩
      obtain ⟨v36, hil, hcs⟩ := hsl
      have HIL := Lib.hid hil
      have HQ := Lib.hid hq
      have HRO2 := Lib.hid hro
      clear hil hq hro
      go_cut [12, 13] (fun s12 s13 wx => ∃ b12 : Nat, s12 = .pointer (some ⟨b12, 0, none⟩) ∧ s13 = .bool ro ∧ Hid (Px W3 wx b12 rk ri rs rb))
      case first =>
        rcases hcs with ⟨rfl, rfl, rfl, rfl, rfl⟩ | ⟨g1, o1, rfl, ⟨hcc, hne⟩, rfl⟩ | ⟨g1, o1, rfl, rfl, rfl, rfl⟩
        all_goals
          first | go_region_law (
            (go_simp
             go_at_call 93
             (with_reducible refine (hPart.out _ _ (by go_grown) HIL.out).mono ?_)
             rintro e w4 ⟨rfl, hb4⟩
             have HB4 : Hid (Below W3.heap.size W3 w4) := Lib.hid ((show Below W3.heap.size W3 _ from by go_grown).trans (hb4.mono (show Below W3.heap.size W3 _ from by go_grown).size))
             (first
               | (have HE4 : Hid (Below (W3.heap.size + 1) (W3.alloc (.cells #[.int .i64 0, .int .i64 0, .string ⟨#[]⟩, .bool false] 57)) w4) := Lib.hid (by with_reducible first | exact hb4.mono (by simp) | exact (Below.refl _ _).drew.trans (hb4.mono (by simp)))
                  have HZ4 : Hid (Rz w4 W3.heap.size) := Lib.hid (Row.below (Row.made W3 _ _) HE4.out (by omega))
                  obtain ⟨hlt4, p40, p41, p42, p43, f40, f41, f42, f43⟩ := HZ4.out.facts)
               | skip)
             clear hb4)) | fail
        all_goals
          go_wp2_with fail
          go_meet
          refine ⟨_, rfl, rfl, Lib.hid ?_⟩
          first
            | with_reducible exact px_early HE4.out
            | with_reducible exact px_late HB4.out
      case rest =>
        obtain ⟨b12, rfl, rfl, hpx⟩ := hcut
        obtain ⟨hpr, hpb⟩ := hpx.out
        have HPR := Lib.hid hpr
        have HSG4 := Lib.hid (HSG3.out.turns (Turns.of_below hpb) (fun _ _ x => x))
        have HKS4 := Lib.hid (HKS3.out.call hpb)
        clear e0 e1 e2 e3 e4 e5 e6 hpx HSG3 HKS3 HIL hPart hpr hpb
        cases ro with
        | false =>
          obtain rfl : R = none := HNO.out (HRN.out rfl)
          have HZ1 : Hid (Rz wc w.heap.size) := Lib.hid (HZ.out _ HKS4.out.be)
          have HBE := Lib.hid (HX.out.trans (HKS4.out.be.mono HX.out.size))
          obtain ⟨hlt1, p10, p11, p12, p13, f10, f11, f12, f13⟩ := HZ1.out.facts
          go_wp2
          obtain ⟨k0, k1, k2, k3⟩ := four (put4 HZ1.out (.int .i64 0) (.int .i64 0) (.string ⟨#[]⟩) (.bool false))
          exact bodyPost_ret (v := .tuple #[.agg #[.int .i64 0, .int .i64 0, .string ⟨#[]⟩, .bool false], .bool false]) (by simp [results, Try.results32, go_sem, k0, k1, k2, k3]; try rfl) rfl (rpost_no rfl (below4 HBE.out (w.heap.size) (Nat.le_refl _) _ _ _ _))
        | true =>
          have HY := Lib.hid (HYES.out _ (HRO.out rfl))
          have q0 : wc.cell? ⟨b12, 0, none⟩ = some (.int .i64 rk) := (HPR.out.cell 0).trans rfl
          have q1 : wc.cell? ⟨b12, 1, none⟩ = some (.int .i64 ri) := (HPR.out.cell 1).trans rfl
          have q2 : wc.cell? ⟨b12, 2, none⟩ = some (.string rs) := (HPR.out.cell 2).trans rfl
          have q3 : wc.cell? ⟨b12, 3, none⟩ = some (.bool rb) := (HPR.out.cell 3).trans rfl
          obtain ⟨i0, hi0, hz0, hz1, hz2⟩ := info_parts value_info
          have hck : (cu : Int) ≤ (kc : Int) := by omega
          have z1 : Seg ((wc.alloc (.cells #[.int .i64 rk, .int .i64 ri, .string rs, .bool rb] 57)).drew) 57 4 (.slice kA cu kc) cu ((vcells st).take (cu * 4)) ob := drewS ((Seg.front HSG4.out cu (by omega)).alloc _)
          have z2 : ∀ j u, ((⟨rk, ri, rs, rb⟩ : VV).cells)[j]? = some u → ((wc.alloc (.cells #[.int .i64 rk, .int .i64 ri, .string rs, .bool rb] 57)).drew).cell? ((⟨wc.heap.size, 0, none⟩ : Addr).add j) = some u := news4 (Row.drew (Row.made wc _ _))
          have z3 : ∀ u ∈ (⟨rk, ri, rs, rb⟩ : VV).cells, u.oneCell' = true := by simp [VV.cells, Value.oneCell']
          have z4 : cu + 1 ≤ maxLen := by unfold maxLen; omega
          have z5 : (cu + 1) * 40 ≤ 140737488355328 := by omega
          have z6 : Below w0.heap.size w0 ((wc.alloc (.cells #[.int .i64 rk, .int .i64 ri, .string rs, .bool rb] 57)).drew) := (HKS4.out.be.alloc HKS4.out.be.size _).drew
          have z7 : cu ≤ st.length := by have := HD.out; omega
          have Z1 := Lib.hid z1
          have Z2 := Lib.hid z2
          have Z3 := Lib.hid z3
          have Z4 := Lib.hid z4
          have Z5 := Lib.hid z5
          have Z6 := Lib.hid z6
          have Z7 := Lib.hid z7
          clear z1 z2 z3 z4 z5 z6 z7
          rcases hcs with ⟨rfl, rfl, rfl, rfl, rfl⟩ | ⟨g1, o1, rfl, ⟨hcc, hne⟩, rfl⟩ | ⟨g1, o1, rfl, rfl, rfl, rfl⟩
          all_goals
            go_upto_region 11 with fail
            go_region_law (
              (refine step_append_seg _ rfl (.tmp 45) (.tmp 47) 40 rfl 57 i0 _ 4 40 Try.underlying40 hi0 hz0 hz1 hz2 rfl (by decide) _ _ _ ob rfl Z1.out ⟨wc.heap.size, 0, none⟩ 1 1 (⟨rk, ri, rs, rb⟩ : VV).cells rfl rfl Z2.out Z3.out (by decide) Z4.out Z5.out ?_
               intro v5 w5 ob5 hs5 ht5 ho5
               have HP := Lib.hid (Kv.push (v := .bool false) (w := w0) (st := st) (x := ⟨rk, ri, rs, rb⟩) Z6.out Z7.out HOB.out hs5 ht5 ho5)
               clear hs5 ht5 ho5))
          all_goals
            go_wp2
            go_roundw
            case rel => exact ⟨k + 1, by omega, by go_num, Lib.hid ⟨_, HP.out, HDEP.out _, HY.out.1, HY.out.2⟩⟩
            case measure => simp [intOf]; omega
    · obtain rfl : k = n := by omega
      have hki : ¬ (k : Int) < (k : Int) := by omega
      rw [List.take_of_length_le (by rw [HN.out]; exact Nat.le_refl _), HG.out.one, hd] at hdep
      have hd1 : d = 1 := by omega
      subst hd1
      rw [List.drop_of_length_le (by rw [HN.out]; exact Nat.le_refl _)] at hkr
      obtain ⟨⟨yk, yi, ys, yb⟩, rfl⟩ : ∃ y, st = [y] := by
        match st, hd with
        | [y], _ => exact ⟨y, rfl⟩
      obtain rfl : R = some ⟨yk, yi, ys, yb⟩ := hkr.symm
      obtain ⟨g1, o1, cap, q1, q2, q3, q4, q5, q6⟩ := hsg.shape (by decide)
      injection q1 with q1 q1b q1c
      subst q1
      have c0 : V.cell? ⟨g1, o1, none⟩ = some (.int .i64 yk) := q5 0 _ rfl
      have c1 : V.cell? ⟨g1, o1 + 1, none⟩ = some (.int .i64 yi) := q5 1 _ rfl
      have c2 : V.cell? ⟨g1, o1 + 2, none⟩ = some (.string ys) := q5 2 _ rfl
      have c3 : V.cell? ⟨g1, o1 + 3, none⟩ = some (.bool yb) := q5 3 _ rfl
      have HBE := Lib.hid (HX.out.trans (hks.be.mono HX.out.size))
      have HZ1 : Hid (Rz V w.heap.size) := Lib.hid (HZ.out _ hks.be)
      obtain ⟨hlt1, p10, p11, p12, p13, f10, f11, f12, f13⟩ := HZ1.out.facts
      clear hkr hsg hob hdep hks q5 q6 q1b q1c HK hd hk2 hsi
      go_wp2
      obtain ⟨k0, k1, k2, k3⟩ := four (put4 HZ1.out (.int .i64 yk) (.int .i64 yi) (.string ys) (.bool yb))
      exact bodyPost_ret (v := .tuple #[.agg #[.int .i64 yk, .int .i64 yi, .string ys, .bool yb], .bool true]) (by simp [results, Try.results32, go_sem, k0, k1, k2, k3]; try rfl) rfl (rpost_yes rfl (below4 HBE.out (w.heap.size) (Nat.le_refl _) _ _ _ _))
end Go.Proofs.Ytopbildpeojgoaa.Evl
