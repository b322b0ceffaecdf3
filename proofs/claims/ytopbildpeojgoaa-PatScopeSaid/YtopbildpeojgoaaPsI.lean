/- The law PatScope. -/
import Derived.Test.YtopbildpeojgoaaPsH
import Derived.Test.YtopbildpeojgoaaPaD
import Derived.Test.YtopbildpeojgoaaLaw
import Derived.Test.YtopbildpeojgoaaBits
import Derived.Deep.RegionLaw
import Derived.Deep.CutBlock
namespace Go.Proofs.Ytopbildpeojgoaa.Ps
open Go.RowKit Go.Proofs.Ytopbildpeojgoaa Go.Proofs.Ytopbildpeojgoaa.Sch Go.Proofs.Ytopbildpeojgoaa.Ty Go.Proofs.Ytopbildpeojgoaa.Ck Go.Proofs.Ytopbildpeojgoaa.Pc
set_option linter.unusedVariables false
set_option maxRecDepth 100000
theorem and255p (a : Int) : bits .and .i64 a 255 = a % 256 := by
  have hm : (BitVec.ofInt 64 255).toNat = 2 ^ 8 - 1 := by decide
  have key : (BitVec.ofInt 64 a &&& BitVec.ofInt 64 255).toNat = (a % ((2 ^ 64 : Nat) : Int)).toNat % 2 ^ 8 := by
    rw [BitVec.toNat_and, BitVec.toNat_ofInt, hm, Nat.and_two_pow_sub_one_eq_mod]
  show IntKind.i64.wrap ((BitVec.ofInt 64 a &&& BitVec.ofInt 64 255).toNat : Nat) = a % 256
  rw [key, IntKind.wrap_i64]
  omega
/-- A query that was made, at bq. -/
structure SQ (w W : World) (bq g o m c k : Nat) (win cap : Int) (es : List Pq.El) : Prop where
  be : Below w.heap.size w W
  row : Row W bq 67 #[.slice (some ⟨g, o, none⟩) m c, .int .i64 win, .int .i64 cap]
  le : Pa.LE W g o m (elAt es)
  co : ∀ k, k < m → Co W (fun _ => True) (elAt es k) (tF (es.getD k dEl)) (nF (es.getD k dEl))
  qs : Qs W W.heap.size (.slice (some ⟨g, o, none⟩) m c) (es.map toQ)
  gg : Pq.Good es.length es
  len : es.length = m
  l1 : 1 ≤ m
  l4 : m ≤ 4
  mc : m ≤ c
  cm : c ≤ maxLen
  km : k < m
  tp : ∀ k (h : k < es.length), 0 < es[k].ts.length ∧ es[k].ts.length ≤ 3
  pn : ∀ k (hk : k < es.length), (evOf es[k]).pn = es[k].nds.length
theorem SQ.call {w W W' : World} {bq g o m c k : Nat} {win cap : Int} {es : List Pq.El} (h : SQ w W bq g o m c k win cap es) (hb : Below W.heap.size W W') : SQ w W' bq g o m c k win cap es :=
  { h with be := h.be.trans (hb.mono h.be.size), row := h.row.below hb h.row.lt, le := h.le.call hb, co := fun k hk => (h.co k hk).call hb, qs := h.qs.below hb hb.size }
set_option maxHeartbeats 16000000 in
theorem scope_law (A : Option Addr) (n c0 : Nat) (f : Nat → Int) (ln : n ≤ c0) (lc : c0 ≤ 9223372036854775807) (lb : ∀ k, -9223372036854775808 ≤ f k ∧ f k ≤ 9223372036854775807) {w : World} (ll : Lies w w.heap.size A n (fun k => .int .i64 (f k))) (at' : Int) (y : Int) (hy : bits .and .i64 at' 255 = y) (y0 : 0 ≤ y) (y1 : y ≤ 255) :
    Calls Try.prog 5 #[.slice A n c0, .int .i64 at'] w fun e w' => e = .returned (.bool true) ∧ Below w.heap.size w w' := by
  have hqy := Pq.query_any A n c0 f ln lc lb w ll
  clear ll lb
  go_enter Try.func5, Try.ntmps5
  go_wp2_with fail
  refine hqy.mono ?_
  unfold Pq.Made
  rintro e w1 ⟨v, win, cap, es, rfl, hqi, hg, l1, l4, _, _, _⟩
  obtain ⟨g, o, c, rfl, hle, hco, hc1, hc2⟩ := qi_le hqi (by omega)
  obtain ⟨m, hm⟩ : ∃ m, es.length = m := ⟨_, rfl⟩
  obtain ⟨k, hk, hkm⟩ : ∃ k : Nat, y.tmod (m : Int) = (k : Int) ∧ k < m := ⟨(y.tmod (m : Int)).toNat, by
    rw [Int.tmod_eq_emod_of_nonneg y0]
    have := Int.emod_nonneg y (show (m : Int) ≠ 0 by omega)
    omega, by
    rw [Int.tmod_eq_emod_of_nonneg y0]
    have := Int.emod_lt_of_pos y (show (0 : Int) < m by omega)
    have := Int.emod_nonneg y (show (m : Int) ≠ 0 by omega)
    omega⟩
  have hX1 : Below w1.heap.size w1 (w1.alloc (.cells #[.slice (some ⟨g, o, none⟩) es.length c, .int .i64 win, .int .i64 cap] 67)) := (Below.refl _ _).alloc (Nat.le_refl _) _
  have htp : ∀ k (h : k < es.length), 0 < es[k].ts.length ∧ es[k].ts.length ≤ 3 := fun k hk => by
    obtain ⟨⟨j, hj⟩, _⟩ := hg.con k _ (List.getElem?_eq_getElem hk)
    have := Pq.tyL_len j
    rw [hj]; omega
  have hpn : ∀ k (hk : k < es.length), (evOf es[k]).pn = es[k].nds.length := fun k hk => by
    obtain ⟨ob, _, _, h3⟩ := hqi.sg
    have hok := h3 _ (List.getElem_mem hk)
    cases hb : es[k].pb with
    | none => have := hok.no.1 hb; simp [evOf, hb, this]
    | some b => simp [evOf, hb]
  have HSQ : Hid (SQ w (w1.alloc (.cells #[.slice (some ⟨g, o, none⟩) m c, .int .i64 win, .int .i64 cap] 67)) w1.heap.size g o m c k win cap es) := Lib.hid (by
    rw [← hm]
    exact { be := hqi.be.trans (hX1.mono hqi.be.size), row := Row.made _ _ _, le := hle.call hX1, co := fun k hk => (hco k hk).call hX1, qs := (qs_qi hqi).below hX1 hX1.size, gg := hg, len := rfl, l1 := l1, l4 := l4, mc := hc1, cm := hc2, km := by omega, tp := htp, pn := hpn })
  rw [hm]
  have hmz : ((m : Int) == 0) = false := by simp; omega
  have hmz2 : ¬ (m : Int) = 0 := by omega
  clear hqy hqi hg hle hco hc1 hc2 l1 htp hpn hX1
  have hm4 : m ≤ 4 := by omega
  clear l4 hm
  go_upto_region 3 with fail
  generalize hW : w1.alloc (.cells #[.slice (some ⟨g, o, none⟩) m c, .int .i64 win, .int .i64 cap] 67) = W at HSQ ⊢
  generalize w1.heap.size = bq at HSQ ⊢
  clear hW
  have d0 : W.cell? ⟨bq, 0, none⟩ = some (.slice (some ⟨g, o, none⟩) m c) := (HSQ.out.row.cell 0).trans rfl
  have d1 : W.cell? ⟨bq, 1, none⟩ = some (.int .i64 win) := (HSQ.out.row.cell 1).trans rfl
  have d2 : W.cell? ⟨bq, 2, none⟩ = some (.int .i64 cap) := (HSQ.out.row.cell 2).trans rfl
  have hsc := Ck.scope_any (.slice (some ⟨g, o, none⟩) m c) win cap (es.map toQ) k W HSQ.out.qs (by rw [List.length_map, HSQ.out.len]; omega) (by rw [List.length_map, HSQ.out.len]; exact hkm) (fun i hi _ => by
    have hi' : i < es.length := by simpa using hi
    rw [List.getElem_map]
    have := HSQ.out.tp i hi'
    exact ⟨this.1, by show (es[i]'hi').ts.length ≤ 1000; omega⟩)
  have HSC := Lib.hid hsc
  clear hsc
  go_wp2_with fail
  refine HSC.out.mono ?_
  rintro e w2 ⟨u, rfl, hbs, hb2⟩
  have HBS := Lib.hid hbs
  have HS2 := Lib.hid (HSQ.out.call hb2)
  obtain ⟨uA, uc, rfl, u1, u2, _⟩ := hbs
  obtain ⟨ns, hns⟩ : ∃ ns, (scopeM (es.map toQ) k).length = ns := ⟨_, rfl⟩
  rw [hns] at HBS u1 ⊢
  have HNS := Lib.hid hns
  clear hb2 d0 d1 d2 HSC HSQ hns
  go_wp2
  go_loopw [8, 9, 10, 11] (fun s8 s9 s10 s11 wr => ∃ i : Nat, i ≤ m ∧ s11 = .int .i64 i ∧ s8 = .int .i64 ((scopeK (es.map toQ) k i).length : Nat) ∧ s9 = .int .i64 (Pa.mostS (elAt es) i) ∧ s10 = .int .i64 (Pa.leastS (elAt es) i) ∧ Hid (Below w2.heap.size w2 wr)) (fun _ _ _ s11 _ => m - (intOf s11).toNat)
  case atStart => exact ⟨0, by omega, rfl, rfl, rfl, rfl, Below.refl _ _⟩
  case round =>
    obtain ⟨i, hi, rfl, rfl, rfl, rfl, hb⟩ := hrel
    have HS3 := Lib.hid (HS2.out.call hb.out)
    have d0 : wr.cell? ⟨bq, 0, none⟩ = some (.slice (some ⟨g, o, none⟩) m c) := (HS3.out.row.cell 0).trans rfl
    have d1 : wr.cell? ⟨bq, 1, none⟩ = some (.int .i64 win) := (HS3.out.row.cell 1).trans rfl
    have d2 : wr.cell? ⟨bq, 2, none⟩ = some (.int .i64 cap) := (HS3.out.row.cell 2).trans rfl
    by_cases hlt : i < m
    · have hil : i < es.length := by rw [HS2.out.len]; exact hlt
      have hil2 : i < (es.map toQ).length := by rw [List.length_map]; exact hil
      obtain ⟨_, _, e1, _, _, h3⟩ := HS3.out.qs
      injection e1 with e1 e2 e3
      clear e2
      obtain ⟨g', o', tv, pv, e4, hg, x0, x1, x2, x3, x4, x5, hsl, hns'⟩ := h3 i hil2
      rw [← e1] at e4
      injection e4 with e4
      injection e4 with e4 e5
      subst e4 e5
      have hel := List.getElem?_eq_getElem hil
      have hlo := HS2.out.gg.lo _ (List.getElem_mem hil)
      have hfs := find_self HS2.out.gg (by have := HS2.out.len; omega) hel
      have hat : elAt es i = evOf es[i] := by unfold elAt; rw [get_at hil]
      have hma := List.getElem_map (f := toQ) (l := es) (h := hil2)
      rw [hma] at x0 x2 x3 x4 hsl hns'
      obtain ⟨e, he⟩ : ∃ e, es[i] = e := ⟨_, rfl⟩
      rw [he] at x0 x2 x3 x4 hsl hns' hel hlo hfs hat hma
      obtain ⟨ev, etb, et, en, ea, eb, epb, ep⟩ := e
      dsimp only [toQ] at x0 x2 x3 x4 hsl hns' hlo hfs
      have HEL := Lib.hid hel
      have HFS := Lib.hid hfs
      have HQI : Hid ((es.map toQ)[i]? = some (toQ ⟨ev, etb, et, en, ea, eb, epb, ep⟩)) := Lib.hid (by rw [List.getElem?_map, hel]; rfl)
      have HMO : Hid (Pa.mostS (elAt es) (i + 1) = Pa.mostS (elAt es) i + (if en then 0 else eb)) := Lib.hid (by
        show Pa.mostS (elAt es) i + (if (elAt es i).neg then 0 else (elAt es i).mx) = _
        rw [hat]; rfl)
      have HLE : Hid (Pa.leastS (elAt es) (i + 1) = Pa.leastS (elAt es) i + (if en then 0 else ea)) := Lib.hid (by
        show Pa.leastS (elAt es) i + (if (elAt es i).neg then 0 else (elAt es i).mn) = _
        rw [hat]; rfl)
      have hbm : ∀ j, j < m → (0 ≤ (elAt es j).mx ∧ (elAt es j).mx ≤ 4) ∧ (0 ≤ (elAt es j).mn ∧ (elAt es j).mn ≤ 4) := fun j hj => by
        have hjl : j < es.length := by rw [HS2.out.len]; exact hj
        have := HS2.out.gg.lo _ (List.getElem_mem hjl)
        unfold elAt
        rw [get_at hjl]
        exact ⟨⟨by show 0 ≤ es[j].mx; omega, by show es[j].mx ≤ 4; omega⟩, ⟨by show 0 ≤ es[j].mn; omega, by show es[j].mn ≤ 4; omega⟩⟩
      have mo := Pa.mostS_lo (elAt es) m (fun j hj => (hbm j hj).1) i hi
      have lo := Pa.leastS_lo (elAt es) m (fun j hj => (hbm j hj).2) i hi
      have hwm : IntKind.i64.wrap (Pa.mostS (elAt es) i + eb) = Pa.mostS (elAt es) i + eb := by rw [IntKind.wrap_i64]; omega
      have hwl : IntKind.i64.wrap (Pa.leastS (elAt es) i + ea) = Pa.leastS (elAt es) i + ea := by rw [IntKind.wrap_i64]; omega
      have hse := nS_le (es.map toQ) k i
      obtain ⟨q, hq⟩ : ∃ q, (scopeK (es.map toQ) k i).length = q := ⟨_, rfl⟩
      rw [hq] at hse ⊢
      have HQ := Lib.hid hq
      obtain ⟨mo1, hmo1⟩ : ∃ x, Pa.mostS (elAt es) i = x := ⟨_, rfl⟩
      obtain ⟨le1, hle1⟩ : ∃ x, Pa.leastS (elAt es) i = x := ⟨_, rfl⟩
      rw [hmo1] at HMO hwm ⊢
      rw [hle1] at HLE hwl ⊢
      have hwq : IntKind.i64.wrap ((q : Int) + 1) = ((q + 1 : Nat) : Int) := by rw [IntKind.wrap_i64]; omega
      have HFI := Lib.hid (fun X (h : Below wr.heap.size wr X) => Ck.find_any (.slice (some ⟨g, o, none⟩) m c) win cap (es.map toQ) ev X (HS3.out.qs.below h h.size))
      rw [HFS.out] at HFI
      have HSL := Lib.hid hsl
      obtain ⟨tA, tc, rfl, _, _, _⟩ := hsl
      obtain ⟨pA, pc, rfl, _, _, _⟩ := hns'
      obtain ⟨tl, htl⟩ : ∃ x, et.length = x := ⟨_, rfl⟩
      obtain ⟨pl, hpl⟩ : ∃ x, (ep.map toN).length = x := ⟨_, rfl⟩
      rw [htl] at x1
      rw [hpl] at x5
      have HTL := Lib.hid htl
      have hiz : (i : Int) < (m : Int) := by omega
      have hic : i < c := by have := HS2.out.mc; omega
      clear h3 e1 e3 hel hfs hat hma he hlo hbm mo lo hq hmo1 hle1 htl hpl
      rcases Decidable.em (i = k) with h1 | h1
      · subst h1
        have HCO : Hid (Cond (es.map toQ) i i (toQ ⟨ev, etb, et, en, ea, eb, epb, ep⟩)) := Lib.hid (.inl rfl)
        cases en with
        | false =>
          have hbd := sc_get HQI.out (show Cond (es.map toQ) i i (toQ ⟨ev, etb, et, false, ea, eb, epb, ep⟩) from HCO.out)
          rw [HQ.out] at hbd
          obtain ⟨_, _, u3, _, _, u4⟩ := HBS.out.below hb.out hb.out.size
          injection u3 with u3 u5 u6
          subst u3 u6
          clear u5
          have hqn : q < (scopeM (es.map toQ) i).length := (List.getElem?_eq_some_iff.1 hbd).1
          obtain ⟨ug, uo, utv, rfl, hug, z0, z1, z2⟩ := u4 q hqn
          have hbe := (List.getElem?_eq_some_iff.1 hbd).2
          rw [hbe] at z0 z2
          obtain ⟨zA, zc, rfl, _, _, _⟩ := z2
          dsimp only [toQ] at z0 z1
          rw [HTL.out] at z1
          have hqz : (q : Int) < (ns : Int) := by rw [HNS.out] at hqn; omega
          have hqz2 : ¬ (ns : Int) ≤ (q : Int) := by omega
          have hqc : q < uc := by rw [HNS.out] at hqn; omega
          have t0 : ∀ ob : Obj, (wr.alloc ob).cell? ⟨ug, uo + q * 2, none⟩ = some (.string ev) := fun ob => Lib.cell?_alloc_some _ z0
          have t1 : ∀ ob : Obj, (wr.alloc ob).cell? ⟨ug, uo + q * 2 + 1, none⟩ = some (.slice zA tl zc) := fun ob => Lib.cell?_alloc_some _ z1
          have HSK := Lib.hid (scopeK_yes (at' := i) HQI.out HCO.out)
          clear hbd u4 hqn hbe z0 z1 hug
          go_upto_region 10 with fail
          go_quiet (fail)
          generalize hWq : (wr.alloc (.cells #[.string ev, .slice tA tl tc, .bool false, .int .i64 ea, .int .i64 eb, .slice pA pl pc] 73)).drewN nq = Wq
          have hbq : Below wr.heap.size wr Wq := by rw [← hWq]; exact below_drewN ((Below.refl _ _).alloc (Nat.le_refl _) _) _
          have re : Row Wq wr.heap.size 73 #[.string ev, .slice tA tl tc, .bool false, .int .i64 ea, .int .i64 eb, .slice pA pl pc] := by rw [← hWq]; exact (Row.made wr _ _).drewN _
          have hsw := HS3.out.call hbq
          have d0 : Wq.cell? ⟨bq, 0, none⟩ = some (.slice (some ⟨g, o, none⟩) m c) := (hsw.row.cell 0).trans rfl
          have d1 : Wq.cell? ⟨bq, 1, none⟩ = some (.int .i64 win) := (hsw.row.cell 1).trans rfl
          have d2 : Wq.cell? ⟨bq, 2, none⟩ = some (.int .i64 cap) := (hsw.row.cell 2).trans rfl
          have r0 : Wq.cell? ⟨wr.heap.size, 0, none⟩ = some (.string ev) := (re.cell 0).trans rfl
          have r2 : Wq.cell? ⟨wr.heap.size, 2, none⟩ = some (.bool false) := (re.cell 2).trans rfl
          have r3 : Wq.cell? ⟨wr.heap.size, 3, none⟩ = some (.int .i64 ea) := (re.cell 3).trans rfl
          have r4 : Wq.cell? ⟨wr.heap.size, 4, none⟩ = some (.int .i64 eb) := (re.cell 4).trans rfl
          have HFQ := Lib.hid (HFI.out Wq hbq)
          have HBQ := Lib.hid hbq
          clear hWq hbq re hsw t0 t1 HFI x0 x1 x2 x3 x4 x5
          go_wp2_with fail
          refine HFQ.out.mono ?_
          rintro e w4 ⟨rfl, hb4⟩
          have HB4 : Hid (Below w2.heap.size w2 w4) := Lib.hid (hb.out.trans ((HBQ.out.trans (hb4.mono HBQ.out.size)).mono hb.out.size))
          clear hb4 d0 d1 d2 r0 r2 r3 r4
          go_wp2
          go_roundw
          case rel => exact ⟨i + 1, by omega, by go_num, by rw [HSK.out, List.length_append, HQ.out]; rfl, by rw [HMO.out]; first | rfl | simp, by rw [HLE.out]; first | rfl | simp, HB4.out⟩
          case measure => simp [intOf]; omega
        | true =>
          have hbd := sc_get HQI.out (show Cond (es.map toQ) i i (toQ ⟨ev, etb, et, true, ea, eb, epb, ep⟩) from HCO.out)
          rw [HQ.out] at hbd
          obtain ⟨_, _, u3, _, _, u4⟩ := HBS.out.below hb.out hb.out.size
          injection u3 with u3 u5 u6
          subst u3 u6
          clear u5
          have hqn : q < (scopeM (es.map toQ) i).length := (List.getElem?_eq_some_iff.1 hbd).1
          obtain ⟨ug, uo, utv, rfl, hug, z0, z1, z2⟩ := u4 q hqn
          have hbe := (List.getElem?_eq_some_iff.1 hbd).2
          rw [hbe] at z0 z2
          obtain ⟨zA, zc, rfl, _, _, _⟩ := z2
          dsimp only [toQ] at z0 z1
          rw [HTL.out] at z1
          have hqz : (q : Int) < (ns : Int) := by rw [HNS.out] at hqn; omega
          have hqz2 : ¬ (ns : Int) ≤ (q : Int) := by omega
          have hqc : q < uc := by rw [HNS.out] at hqn; omega
          have t0 : ∀ ob : Obj, (wr.alloc ob).cell? ⟨ug, uo + q * 2, none⟩ = some (.string ev) := fun ob => Lib.cell?_alloc_some _ z0
          have t1 : ∀ ob : Obj, (wr.alloc ob).cell? ⟨ug, uo + q * 2 + 1, none⟩ = some (.slice zA tl zc) := fun ob => Lib.cell?_alloc_some _ z1
          have HSK := Lib.hid (scopeK_yes (at' := i) HQI.out HCO.out)
          clear hbd u4 hqn hbe z0 z1 hug
          go_upto_region 10 with fail
          go_quiet (fail)
          generalize hWq : (wr.alloc (.cells #[.string ev, .slice tA tl tc, .bool true, .int .i64 ea, .int .i64 eb, .slice pA pl pc] 73)).drewN nq = Wq
          have hbq : Below wr.heap.size wr Wq := by rw [← hWq]; exact below_drewN ((Below.refl _ _).alloc (Nat.le_refl _) _) _
          have re : Row Wq wr.heap.size 73 #[.string ev, .slice tA tl tc, .bool true, .int .i64 ea, .int .i64 eb, .slice pA pl pc] := by rw [← hWq]; exact (Row.made wr _ _).drewN _
          have hsw := HS3.out.call hbq
          have d0 : Wq.cell? ⟨bq, 0, none⟩ = some (.slice (some ⟨g, o, none⟩) m c) := (hsw.row.cell 0).trans rfl
          have d1 : Wq.cell? ⟨bq, 1, none⟩ = some (.int .i64 win) := (hsw.row.cell 1).trans rfl
          have d2 : Wq.cell? ⟨bq, 2, none⟩ = some (.int .i64 cap) := (hsw.row.cell 2).trans rfl
          have r0 : Wq.cell? ⟨wr.heap.size, 0, none⟩ = some (.string ev) := (re.cell 0).trans rfl
          have r2 : Wq.cell? ⟨wr.heap.size, 2, none⟩ = some (.bool true) := (re.cell 2).trans rfl
          have r3 : Wq.cell? ⟨wr.heap.size, 3, none⟩ = some (.int .i64 ea) := (re.cell 3).trans rfl
          have r4 : Wq.cell? ⟨wr.heap.size, 4, none⟩ = some (.int .i64 eb) := (re.cell 4).trans rfl
          have HFQ := Lib.hid (HFI.out Wq hbq)
          have HBQ := Lib.hid hbq
          clear hWq hbq re hsw t0 t1 HFI x0 x1 x2 x3 x4 x5
          go_wp2_with fail
          refine HFQ.out.mono ?_
          rintro e w4 ⟨rfl, hb4⟩
          have HB4 : Hid (Below w2.heap.size w2 w4) := Lib.hid (hb.out.trans ((HBQ.out.trans (hb4.mono HBQ.out.size)).mono hb.out.size))
          clear hb4 d0 d1 d2 r0 r2 r3 r4
          go_wp2
          go_roundw
          case rel => exact ⟨i + 1, by omega, by go_num, by rw [HSK.out, List.length_append, HQ.out]; rfl, by rw [HMO.out]; first | rfl | simp, by rw [HLE.out]; first | rfl | simp, HB4.out⟩
          case measure => simp [intOf]; omega
      · have h1' : ((i : Int) == (k : Int)) = false := by simp; omega
        rcases Nat.lt_or_ge i k with h2 | h2
        · have h2' : (i : Int) < (k : Int) := by omega
          cases en with
          | true =>
            have HCO : Hid (¬ Cond (es.map toQ) k i (toQ ⟨ev, etb, et, true, ea, eb, epb, ep⟩)) := Lib.hid (fun h => h.elim (fun h => h1 h) (fun h => by cases h.2.1))
            have HSK := Lib.hid (scopeK_no (at' := k) HQI.out HCO.out)
            have dd0 : ∀ ob : Obj, (wr.alloc ob).cell? ⟨bq, 0, none⟩ = some (.slice (some ⟨g, o, none⟩) m c) := fun ob => Lib.cell?_alloc_some _ d0
            have dd1 : ∀ ob : Obj, (wr.alloc ob).cell? ⟨bq, 1, none⟩ = some (.int .i64 win) := fun ob => Lib.cell?_alloc_some _ d1
            have dd2 : ∀ ob : Obj, (wr.alloc ob).cell? ⟨bq, 2, none⟩ = some (.int .i64 cap) := fun ob => Lib.cell?_alloc_some _ d2
            go_wp2_with fail
            refine (HFI.out _ (by go_grown)).mono ?_
            rintro e w4 ⟨rfl, hb4⟩
            have HB4 : Hid (Below w2.heap.size w2 w4) := Lib.hid (hb.out.trans (((show Below wr.heap.size wr _ from by go_grown).trans (hb4.mono (show Below wr.heap.size wr _ from by go_grown).size)).mono hb.out.size))
            clear hb4 x0 x1 x2 x3 x4 x5 d0 d1 d2 dd0 dd1 dd2 HFI
            go_wp2
            go_roundw
            case rel => exact ⟨i + 1, by omega, by go_num, by rw [HSK.out, HQ.out], by rw [HMO.out]; first | rfl | simp, by rw [HLE.out]; first | rfl | simp, HB4.out⟩
            case measure => simp [intOf]; omega
          | false =>
            by_cases h3 : eb = 1
            · subst h3
              have HCO : Hid (Cond (es.map toQ) k i (toQ ⟨ev, etb, et, false, ea, 1, epb, ep⟩)) := Lib.hid (.inr ⟨h2, rfl, rfl⟩)
              have hbd := sc_get HQI.out (show Cond (es.map toQ) k i (toQ ⟨ev, etb, et, false, ea, 1, epb, ep⟩) from HCO.out)
              rw [HQ.out] at hbd
              obtain ⟨_, _, u3, _, _, u4⟩ := HBS.out.below hb.out hb.out.size
              injection u3 with u3 u5 u6
              subst u3 u6
              clear u5
              have hqn : q < (scopeM (es.map toQ) k).length := (List.getElem?_eq_some_iff.1 hbd).1
              obtain ⟨ug, uo, utv, rfl, hug, z0, z1, z2⟩ := u4 q hqn
              have hbe := (List.getElem?_eq_some_iff.1 hbd).2
              rw [hbe] at z0 z2
              obtain ⟨zA, zc, rfl, _, _, _⟩ := z2
              dsimp only [toQ] at z0 z1
              rw [HTL.out] at z1
              have hqz : (q : Int) < (ns : Int) := by rw [HNS.out] at hqn; omega
              have hqz2 : ¬ (ns : Int) ≤ (q : Int) := by omega
              have hqc : q < uc := by rw [HNS.out] at hqn; omega
              have t0 : ∀ ob : Obj, (wr.alloc ob).cell? ⟨ug, uo + q * 2, none⟩ = some (.string ev) := fun ob => Lib.cell?_alloc_some _ z0
              have t1 : ∀ ob : Obj, (wr.alloc ob).cell? ⟨ug, uo + q * 2 + 1, none⟩ = some (.slice zA tl zc) := fun ob => Lib.cell?_alloc_some _ z1
              have HSK := Lib.hid (scopeK_yes (at' := k) HQI.out HCO.out)
              clear hbd u4 hqn hbe z0 z1 hug
              go_upto_region 10 with fail
              go_quiet (fail)
              generalize hWq : (wr.alloc (.cells #[.string ev, .slice tA tl tc, .bool false, .int .i64 ea, .int .i64 1, .slice pA pl pc] 73)).drewN nq = Wq
              have hbq : Below wr.heap.size wr Wq := by rw [← hWq]; exact below_drewN ((Below.refl _ _).alloc (Nat.le_refl _) _) _
              have re : Row Wq wr.heap.size 73 #[.string ev, .slice tA tl tc, .bool false, .int .i64 ea, .int .i64 1, .slice pA pl pc] := by rw [← hWq]; exact (Row.made wr _ _).drewN _
              have hsw := HS3.out.call hbq
              have d0 : Wq.cell? ⟨bq, 0, none⟩ = some (.slice (some ⟨g, o, none⟩) m c) := (hsw.row.cell 0).trans rfl
              have d1 : Wq.cell? ⟨bq, 1, none⟩ = some (.int .i64 win) := (hsw.row.cell 1).trans rfl
              have d2 : Wq.cell? ⟨bq, 2, none⟩ = some (.int .i64 cap) := (hsw.row.cell 2).trans rfl
              have r0 : Wq.cell? ⟨wr.heap.size, 0, none⟩ = some (.string ev) := (re.cell 0).trans rfl
              have r2 : Wq.cell? ⟨wr.heap.size, 2, none⟩ = some (.bool false) := (re.cell 2).trans rfl
              have r3 : Wq.cell? ⟨wr.heap.size, 3, none⟩ = some (.int .i64 ea) := (re.cell 3).trans rfl
              have r4 : Wq.cell? ⟨wr.heap.size, 4, none⟩ = some (.int .i64 1) := (re.cell 4).trans rfl
              have HFQ := Lib.hid (HFI.out Wq hbq)
              have HBQ := Lib.hid hbq
              clear hWq hbq re hsw t0 t1 HFI x0 x1 x2 x3 x4 x5
              go_wp2_with fail
              refine HFQ.out.mono ?_
              rintro e w4 ⟨rfl, hb4⟩
              have HB4 : Hid (Below w2.heap.size w2 w4) := Lib.hid (hb.out.trans ((HBQ.out.trans (hb4.mono HBQ.out.size)).mono hb.out.size))
              clear hb4 d0 d1 d2 r0 r2 r3 r4
              go_wp2
              go_roundw
              case rel => exact ⟨i + 1, by omega, by go_num, by rw [HSK.out, List.length_append, HQ.out]; rfl, by rw [HMO.out]; first | rfl | simp, by rw [HLE.out]; first | rfl | simp, HB4.out⟩
              case measure => simp [intOf]; omega
            · have h3' : (eb == 1) = false := by simpa using h3
              have HCO : Hid (¬ Cond (es.map toQ) k i (toQ ⟨ev, etb, et, false, ea, eb, epb, ep⟩)) := Lib.hid (fun h => h.elim (fun h => h1 h) (fun h => h3 h.2.2))
              have HSK := Lib.hid (scopeK_no (at' := k) HQI.out HCO.out)
              have dd0 : ∀ ob : Obj, (wr.alloc ob).cell? ⟨bq, 0, none⟩ = some (.slice (some ⟨g, o, none⟩) m c) := fun ob => Lib.cell?_alloc_some _ d0
              have dd1 : ∀ ob : Obj, (wr.alloc ob).cell? ⟨bq, 1, none⟩ = some (.int .i64 win) := fun ob => Lib.cell?_alloc_some _ d1
              have dd2 : ∀ ob : Obj, (wr.alloc ob).cell? ⟨bq, 2, none⟩ = some (.int .i64 cap) := fun ob => Lib.cell?_alloc_some _ d2
              go_wp2_with fail
              refine (HFI.out _ (by go_grown)).mono ?_
              rintro e w4 ⟨rfl, hb4⟩
              have HB4 : Hid (Below w2.heap.size w2 w4) := Lib.hid (hb.out.trans (((show Below wr.heap.size wr _ from by go_grown).trans (hb4.mono (show Below wr.heap.size wr _ from by go_grown).size)).mono hb.out.size))
              clear hb4 x0 x1 x2 x3 x4 x5 d0 d1 d2 dd0 dd1 dd2 HFI
              go_wp2
              go_roundw
              case rel => exact ⟨i + 1, by omega, by go_num, by rw [HSK.out, HQ.out], by rw [HMO.out]; first | rfl | simp, by rw [HLE.out]; first | rfl | simp, HB4.out⟩
              case measure => simp [intOf]; omega
        · have h2' : ¬ (i : Int) < (k : Int) := by omega
          have HCO : Hid (¬ Cond (es.map toQ) k i (toQ ⟨ev, etb, et, en, ea, eb, epb, ep⟩)) := Lib.hid (fun h => h.elim (fun h => h1 h) (fun h => by omega))
          cases en with
          | true =>
            have HSK := Lib.hid (scopeK_no (at' := k) HQI.out HCO.out)
            have dd0 : ∀ ob : Obj, (wr.alloc ob).cell? ⟨bq, 0, none⟩ = some (.slice (some ⟨g, o, none⟩) m c) := fun ob => Lib.cell?_alloc_some _ d0
            have dd1 : ∀ ob : Obj, (wr.alloc ob).cell? ⟨bq, 1, none⟩ = some (.int .i64 win) := fun ob => Lib.cell?_alloc_some _ d1
            have dd2 : ∀ ob : Obj, (wr.alloc ob).cell? ⟨bq, 2, none⟩ = some (.int .i64 cap) := fun ob => Lib.cell?_alloc_some _ d2
            go_wp2_with fail
            refine (HFI.out _ (by go_grown)).mono ?_
            rintro e w4 ⟨rfl, hb4⟩
            have HB4 : Hid (Below w2.heap.size w2 w4) := Lib.hid (hb.out.trans (((show Below wr.heap.size wr _ from by go_grown).trans (hb4.mono (show Below wr.heap.size wr _ from by go_grown).size)).mono hb.out.size))
            clear hb4 x0 x1 x2 x3 x4 x5 d0 d1 d2 dd0 dd1 dd2 HFI
            go_wp2
            go_roundw
            case rel => exact ⟨i + 1, by omega, by go_num, by rw [HSK.out, HQ.out], by rw [HMO.out]; first | rfl | simp, by rw [HLE.out]; first | rfl | simp, HB4.out⟩
            case measure => simp [intOf]; omega
          | false =>
            have HSK := Lib.hid (scopeK_no (at' := k) HQI.out HCO.out)
            have dd0 : ∀ ob : Obj, (wr.alloc ob).cell? ⟨bq, 0, none⟩ = some (.slice (some ⟨g, o, none⟩) m c) := fun ob => Lib.cell?_alloc_some _ d0
            have dd1 : ∀ ob : Obj, (wr.alloc ob).cell? ⟨bq, 1, none⟩ = some (.int .i64 win) := fun ob => Lib.cell?_alloc_some _ d1
            have dd2 : ∀ ob : Obj, (wr.alloc ob).cell? ⟨bq, 2, none⟩ = some (.int .i64 cap) := fun ob => Lib.cell?_alloc_some _ d2
            go_wp2_with fail
            refine (HFI.out _ (by go_grown)).mono ?_
            rintro e w4 ⟨rfl, hb4⟩
            have HB4 : Hid (Below w2.heap.size w2 w4) := Lib.hid (hb.out.trans (((show Below wr.heap.size wr _ from by go_grown).trans (hb4.mono (show Below wr.heap.size wr _ from by go_grown).size)).mono hb.out.size))
            clear hb4 x0 x1 x2 x3 x4 x5 d0 d1 d2 dd0 dd1 dd2 HFI
            go_wp2
            go_roundw
            case rel => exact ⟨i + 1, by omega, by go_num, by rw [HSK.out, HQ.out], by rw [HMO.out]; first | rfl | simp, by rw [HLE.out]; first | rfl | simp, HB4.out⟩
            case measure => simp [intOf]; omega
    · obtain rfl : i = m := by omega
      clear hlt
      have hsn : (scopeK (es.map toQ) k i).length = ns := by
        have := HNS.out
        unfold scopeM at this
        rw [List.length_map, HS3.out.len] at this
        exact this
      rw [hsn]
      obtain ⟨mo, hmo⟩ : ∃ x, Pa.mostS (elAt es) i = x := ⟨_, rfl⟩
      obtain ⟨le, hle⟩ : ∃ x, Pa.leastS (elAt es) i = x := ⟨_, rfl⟩
      rw [hmo, hle]
      have HMO := Lib.hid hmo
      have HLE := Lib.hid hle
      have HCP := Lib.hid (Pc.copy_any g o i c win cap (elAt es) (fun k => tF (es.getD k dEl)) (fun k => nF (es.getD k dEl)) wr HS3.out.le HS3.out.co (fun k j => ⟨one_t _ _, one_n _ _⟩) (by have := HS3.out.l1; omega) (by omega))
      clear hsn hmo hle
      go_wp2_with fail
      refine HCP.out.mono ?_
      rintro e w5 ⟨g2, o2, c2, E2, rfl, hcd, hc21, hc22⟩
      have hkl : k < es.length := by rw [HS3.out.len]; exact HS3.out.km
      have htp0 : ∀ k (h : k < es.length), 0 < es[k].ts.length := fun k h => (HS3.out.tp k h).1
      have HTP := Lib.hid htp0
      have HCQ : Hid (CQ w5 (wr.heap.size + 2) g2 o2 es E2) := Lib.hid (cq_of (by rw [HS3.out.len]; exact hcd) htp0 HS3.out.pn)
      have HB5 : Hid (Below wr.heap.size wr w5) := Lib.hid hcd.be
      have HC2 : Hid (es.length ≤ c2 ∧ c2 ≤ maxLen) := Lib.hid ⟨by rw [HS3.out.len]; exact hc21, hc22⟩
      have HS5 := Lib.hid (HS3.out.call HB5.out)
      have dd0 : ∀ ob : Obj, (w5.alloc ob).cell? ⟨bq, 0, none⟩ = some (.slice (some ⟨g, o, none⟩) i c) := fun ob => Lib.cell?_alloc_some _ ((HS5.out.row.cell 0).trans rfl)
      have dd1 : ∀ ob : Obj, (w5.alloc ob).cell? ⟨bq, 1, none⟩ = some (.int .i64 win) := fun ob => Lib.cell?_alloc_some _ ((HS5.out.row.cell 1).trans rfl)
      have dd2 : ∀ ob : Obj, (w5.alloc ob).cell? ⟨bq, 2, none⟩ = some (.int .i64 cap) := fun ob => Lib.cell?_alloc_some _ ((HS5.out.row.cell 2).trans rfl)
      clear hcd htp0 d0 d1 d2 HCP
      go_wp2_with fail
      generalize hW6 : w5.alloc (.cells #[.slice (some ⟨g2, o2, none⟩) i c2, .int .i64 win, .int .i64 cap] 67) = W6
      have hb6 : Below w5.heap.size w5 W6 := by rw [← hW6]; exact (Below.refl _ _).alloc (Nat.le_refl _) _
      have R13 : Hid (Row W6 w5.heap.size 67 #[.slice (some ⟨g2, o2, none⟩) i c2, .int .i64 win, .int .i64 cap]) := Lib.hid (by rw [← hW6]; exact Row.made _ _ _)
      have HS6 := Lib.hid (HS5.out.call hb6)
      have HC6 := Lib.hid (HCQ.out.call hb6)
      have HB6 := Lib.hid (HB5.out.trans (hb6.mono HB5.out.size))
      have HQC : Hid (∀ X, Below W6.heap.size W6 X → Qs X X.heap.size (.slice (some ⟨g2, o2, none⟩) i c2) (es.map toQ)) := Lib.hid (fun X h => by
        have := (HC6.out.qs HC2.out.1 HC2.out.2).below h h.size
        rw [HS3.out.len] at this
        exact this)
      clear dd0 dd1 dd2 hW6 hb6
      refine (same_any _ _ win cap (es.map toQ) (es.map toQ) W6 (HQC.out W6 (Below.refl _ _)) HS6.out.qs rfl (fun _ _ _ => ⟨rfl, rfl, rfl, rfl, rfl, rfl⟩) true ⟨fun _ _ _ _ => rfl, fun _ => rfl⟩).mono ?_
      rintro e w7 ⟨rfl, hb7⟩
      have HB7 := Lib.hid (HB6.out.trans (hb7.mono HB6.out.size))
      have HS7 := Lib.hid (HS6.out.call hb7)
      have HC7 := Lib.hid (HC6.out.call hb7)
      have HQ7 := Lib.hid (HQC.out w7 hb7)
      have R137 := Lib.hid (Row.below R13.out hb7 R13.out.lt)
      have d0 : w7.cell? ⟨bq, 0, none⟩ = some (.slice (some ⟨g, o, none⟩) i c) := (HS7.out.row.cell 0).trans rfl
      have d1 : w7.cell? ⟨bq, 1, none⟩ = some (.int .i64 win) := (HS7.out.row.cell 1).trans rfl
      have d2 : w7.cell? ⟨bq, 2, none⟩ = some (.int .i64 cap) := (HS7.out.row.cell 2).trans rfl
      have f0 : w7.cell? ⟨w5.heap.size, 0, none⟩ = some (.slice (some ⟨g2, o2, none⟩) i c2) := (R137.out.cell 0).trans rfl
      have f1 : w7.cell? ⟨w5.heap.size, 1, none⟩ = some (.int .i64 win) := (R137.out.cell 1).trans rfl
      have f2 : w7.cell? ⟨w5.heap.size, 2, none⟩ = some (.int .i64 cap) := (R137.out.cell 2).trans rfl
      clear hb7
      go_wp2_with fail
      refine (rsame_any _ _ win cap (es.map toQ) w7 HQ7.out HS7.out.qs).mono ?_
      rintro e w8 ⟨rfl, hb8⟩
      have HB8 := Lib.hid (HB7.out.trans (hb8.mono HB7.out.size))
      have HS8 := Lib.hid (HS7.out.call hb8)
      have HC8 := Lib.hid (HC7.out.call hb8)
      have R138 := Lib.hid (Row.below R137.out hb8 R137.out.lt)
      clear d0 d1 d2 f0 f1 f2 hb8
      obtain ⟨s, r, hts, hs3⟩ := first_ty HS3.out.gg (List.getElem?_eq_getElem hkl)
      obtain ⟨tb, off, hA, ⟨u, hu⟩, hf, hB, hne, hltb, q, hql, hlike, hnot, hqs⟩ := HC8.out.put HC2.out.1 HC2.out.2 hkl HTP.out ⟨#[90]⟩ (fun s' hs' => by
        rw [hts] at hs'
        injection hs' with hs'
        subst hs'
        rcases hs3 with rfl | rfl | rfl <;> decide)
      have hal := HC8.out.al k hkl
      have x1 := HC8.out.le.cell hkl (j := 1) (by omega)
      simp only [Pa.ElV.val] at x1
      rw [hA, hal.2.2.2.2.1] at x1
      have htl0 := (HS3.out.tp k hkl).1
      obtain ⟨tl, htl⟩ : ∃ x, es[k].ts.length = x := ⟨_, rfl⟩
      rw [htl] at x1 htl0
      have htc := (HC8.out.ts k hkl).2.1
      rw [htl] at htc
      obtain ⟨tc, htcc⟩ : ∃ x, (E2 k).tc = x := ⟨_, rfl⟩
      rw [htcc] at x1 htc
      have f0 : w8.cell? ⟨w5.heap.size, 0, none⟩ = some (.slice (some ⟨g2, o2, none⟩) i c2) := (R138.out.cell 0).trans rfl
      have hki : (k : Int) < (i : Int) := by have := HS3.out.km; omega
      have hki2 : ¬ (i : Int) ≤ (k : Int) := by omega
      have htz : ((tl : Int) == 0) = false := by simp; omega
      have htz2 : (0 : Int) < (tl : Int) := by omega
      have hkc2 : k < c2 := by have := HC2.out.1; omega
      have htb5 : tb < w5.heap.size := by
        obtain ⟨tb', off', cs, e1, _, hr, _⟩ := (HCQ.out.ts k hkl).1 0 (HTP.out k hkl)
        rw [hA] at e1
        injection e1 with e1
        injection e1 with e1 e2
        rw [e1]
        exact hr.lt
      have hw9 : Below wr.heap.size wr (w8.setCell ⟨tb, off, none⟩ (.string ⟨#[90]⟩)) := HB8.out.setCell (p := ⟨tb, off, none⟩) (by show wr.heap.size ≤ tb; omega) _
      have HB9 := Lib.hid hw9
      have HS9 := Lib.hid (HS3.out.call hw9)
      have R139 := Lib.hid (R138.out.past (p := ⟨tb, off, none⟩) (by show w5.heap.size ≠ tb; omega) (.string ⟨#[90]⟩))
      have HQS := Lib.hid hqs
      have HLK := Lib.hid hlike
      have HNT := Lib.hid hnot
      have HQL := Lib.hid hql
      have HTS := Lib.hid hts
      have HS3T := Lib.hid hs3
      have HKL := Lib.hid hkl
      clear hA hal hqs hlike hnot hql hw9 htl htcc hts hs3
      go_wp2_with fail
      generalize w8.setCell ⟨tb, off, none⟩ (.string ⟨#[90]⟩) = w9 at HB9 HS9 R139 HQS ⊢
      clear x1 f0 hu hf
      refine (Pa.awake_any w9).mono ?_
      rintro e w10 ⟨rfl, hb10⟩
      have HS10 := Lib.hid (HS9.out.call hb10)
      have H910 := Lib.hid hb10
      have d0 : w10.cell? ⟨bq, 0, none⟩ = some (.slice (some ⟨g, o, none⟩) i c) := (HS10.out.row.cell 0).trans rfl
      have d1 : w10.cell? ⟨bq, 1, none⟩ = some (.int .i64 win) := (HS10.out.row.cell 1).trans rfl
      have d2 : w10.cell? ⟨bq, 2, none⟩ = some (.int .i64 cap) := (HS10.out.row.cell 2).trans rfl
      have hbm : ∀ j, j < i → (0 ≤ (elAt es j).mx ∧ (elAt es j).mx ≤ 4) ∧ (0 ≤ (elAt es j).mn ∧ (elAt es j).mn ≤ 4) := fun j hj => by
        have hjl : j < es.length := by rw [HS3.out.len]; exact hj
        have := HS3.out.gg.lo _ (List.getElem_mem hjl)
        unfold elAt
        rw [get_at hjl]
        exact ⟨⟨by show 0 ≤ es[j].mx; omega, by show es[j].mx ≤ 4; omega⟩, ⟨by show 0 ≤ es[j].mn; omega, by show es[j].mn ≤ 4; omega⟩⟩
      have HBM := Lib.hid hbm
      clear hb10 hbm
      go_wp2_with fail
      refine (Pa.most_is g o i c win cap (elAt es) w10 HS10.out.le (by omega) (fun j hj => (HBM.out j hj).1) mo HMO.out).mono ?_
      rintro e w11 ⟨rfl, hb11⟩
      have HS11 := Lib.hid (HS10.out.call hb11)
      have H911 := Lib.hid (H910.out.trans (hb11.mono H910.out.size))
      clear d0 d1 d2 hb11
      have d0 : w11.cell? ⟨bq, 0, none⟩ = some (.slice (some ⟨g, o, none⟩) i c) := (HS11.out.row.cell 0).trans rfl
      have d1 : w11.cell? ⟨bq, 1, none⟩ = some (.int .i64 win) := (HS11.out.row.cell 1).trans rfl
      have d2 : w11.cell? ⟨bq, 2, none⟩ = some (.int .i64 cap) := (HS11.out.row.cell 2).trans rfl
      go_wp2_with fail
      refine (Pa.least_is g o i c win cap (elAt es) w11 HS11.out.le (by omega) (fun j hj => (HBM.out j hj).2) le HLE.out).mono ?_
      rintro e w12 ⟨rfl, hb12⟩
      have HS12 := Lib.hid (HS11.out.call hb12)
      have H912 := Lib.hid (H911.out.trans (hb12.mono H911.out.size))
      clear d0 d1 d2 hb12
      have d0 : w12.cell? ⟨bq, 0, none⟩ = some (.slice (some ⟨g, o, none⟩) i c) := (HS12.out.row.cell 0).trans rfl
      have d1 : w12.cell? ⟨bq, 1, none⟩ = some (.int .i64 win) := (HS12.out.row.cell 1).trans rfl
      have d2 : w12.cell? ⟨bq, 2, none⟩ = some (.int .i64 cap) := (HS12.out.row.cell 2).trans rfl
      have hfn := Ck.find_any (.slice (some ⟨g, o, none⟩) i c) win cap (es.map toQ) ⟨#[110, 111, 110, 101]⟩ w12 HS12.out.qs
      rw [find_none HS3.out.gg] at hfn
      have HFN := Lib.hid hfn
      clear hfn
      go_wp2_with fail
      refine HFN.out.mono ?_
      rintro e w13 ⟨rfl, hb13⟩
      have HS13 := Lib.hid (HS12.out.call hb13)
      have H913 := Lib.hid (H912.out.trans (hb13.mono H912.out.size))
      have R1313 := Lib.hid (Row.below R139.out H913.out R139.out.lt)
      have HQ13 : Hid (Qs w13 w13.heap.size (.slice (some ⟨g2, o2, none⟩) i c2) q) := Lib.hid (by
        have := HQS.out.below H913.out H913.out.size
        rw [HS3.out.len] at this
        exact this)
      clear d0 d1 d2 hb13 HFN
      have d0 : w13.cell? ⟨bq, 0, none⟩ = some (.slice (some ⟨g, o, none⟩) i c) := (HS13.out.row.cell 0).trans rfl
      have d1 : w13.cell? ⟨bq, 1, none⟩ = some (.int .i64 win) := (HS13.out.row.cell 1).trans rfl
      have d2 : w13.cell? ⟨bq, 2, none⟩ = some (.int .i64 cap) := (HS13.out.row.cell 2).trans rfl
      have f0 : w13.cell? ⟨w5.heap.size, 0, none⟩ = some (.slice (some ⟨g2, o2, none⟩) i c2) := (R1313.out.cell 0).trans rfl
      have f1 : w13.cell? ⟨w5.heap.size, 1, none⟩ = some (.int .i64 win) := (R1313.out.cell 1).trans rfl
      have f2 : w13.cell? ⟨w5.heap.size, 2, none⟩ = some (.int .i64 cap) := (R1313.out.cell 2).trans rfl
      have HSM := Lib.hid (same_any _ _ win cap q (es.map toQ) w13 HQ13.out HS13.out.qs (by rw [List.length_map]; exact HQL.out) HLK.out false ⟨fun h => absurd h (by decide), fun h => absurd h HNT.out⟩)
      go_wp2_with fail
      refine HSM.out.mono ?_
      rintro e w14 ⟨rfl, hb14⟩
      have HS14 := Lib.hid (HS13.out.call hb14)
      have H914 := Lib.hid (H913.out.trans (hb14.mono H913.out.size))
      clear d0 d1 d2 f0 f1 f2 hb14 HSM
      have d0 : w14.cell? ⟨bq, 0, none⟩ = some (.slice (some ⟨g, o, none⟩) i c) := (HS14.out.row.cell 0).trans rfl
      obtain ⟨_, _, e1, _, _, h3⟩ := HS14.out.qs
      injection e1 with e1 e2 e3
      clear e2
      have hkm2 : k < (es.map toQ).length := by rw [List.length_map]; exact HKL.out
      obtain ⟨g', o', tv, pv, e4, hg, _, y1, _, _, _, _, hsl, _⟩ := h3 k hkm2
      rw [← e1] at e4
      injection e4 with e4
      injection e4 with e4 e5
      subst e4 e5
      have hqt : (es.map toQ)[k].ts = s :: r := by rw [List.getElem_map]; exact HTS.out
      rw [hqt] at hsl
      obtain ⟨vA, vc, rfl, v1, v2, v3⟩ := hsl
      obtain ⟨vg, vo, rfl, _, v4⟩ := v3 0 (by simp)
      have v5 : w14.cell? ⟨vg, vo, none⟩ = some (.string s) := v4
      obtain ⟨vl, hvl⟩ : ∃ x, (s :: r).length = x := ⟨_, rfl⟩
      rw [hvl] at y1 v1
      have hl0 : 0 < vl := by rw [← hvl]; simp
      clear v4 hqt
      have hkc : k < c := by have := HS3.out.mc; have := HS3.out.km; omega
      have hvz : (0 : Int) < (vl : Int) := by omega
      have HFIN : Hid (Below w.heap.size w w14) := HS14.out.be
      have hs3 := HS3T.out
      clear h3 e1 e3 hvl v3 hg
      rcases hs3 with rfl | rfl | rfl
      all_goals
        go_wp2
        go_ret
        exact ⟨rfl, HFIN.out⟩
end Go.Proofs.Ytopbildpeojgoaa.Ps
