/- The law EventOrder: the events that are sorted; the first of its walk. -/
import Derived.Test.YtookojgemipakaaDoorE6N
import Derived.Test.YtookojgemipakaaDoorE4F
import Derived.Deep.RegionHeld
namespace Go.Proofs.YtookojgemipakaaDoor.E6
open Go.RowKit Go.Proofs.YtookojgemipakaaDoor Go.Proofs.YtookojgemipakaaDoor.Door Go.Proofs.YtookojgemipakaaDoor.Ev Go.Proofs.YtookojgemipakaaDoor.Sch Go.Proofs.YtookojgemipakaaDoor.Ty Go.Proofs.YtookojgemipakaaDoor.Evl Go.Proofs.YtookojgemipakaaDoor.E4
set_option linter.unusedVariables false
set_option maxRecDepth 100000
theorem EVS.push2 {w0 w W W2 : World} {v v2 : Value} {es : List EM} {ob ob2 : Option Nat} {z : EM} {o : Obj} (hs0 : Seg w 24 5 v es.length (es.flatMap EM.cells) ob) (h2 : ∀ g, ob = some g → w0.heap.size ≤ g) (h3 : ∀ e, e ∈ es → EvOk w w0.heap.size (fun k => ob = some k) e) (hbe : Below w0.heap.size w0 w)
    (hb : Below w.heap.size w W) (hok : EvOk W w.heap.size (fun _ => False) z)
    (hs : Seg W2 24 5 v2 (es.length + 1) (es.flatMap EM.cells ++ z.cells) ob2) (ht : Turns (W.alloc o) W2 (fun k => ob = some k)) (ho : ob2 = ob ∨ ∃ g, ob2 = some g ∧ (W.alloc o).heap.size ≤ g) : EVS w0 W2 v2 (es ++ [z]) := by
  have hob : ∀ g, ob = some g → g < w.heap.size := fun g e => hs0.lt g e
  have z1 := hb.size
  have z0 := hbe.size
  have hT : Turns W W2 (fun k => ob = some k) := ((Turns.refl W (fun k => ob = some k)).alloc o).trans ht (fun _ _ e => e)
  have hnew : ∀ g, g < W.heap.size → ob ≠ some g → ob2 ≠ some g := fun g hg hn e => by
    rcases ho with h1 | ⟨g', h1, hg'⟩
    · exact hn (by rw [← h1]; exact e)
    · rw [h1] at e; injection e with e; simp at hg'; omega
  refine ⟨⟨ob2, ?_, fun g e => ?_, fun e he => ?_⟩, ?_⟩
  · rw [List.length_append, List.flatMap_append]
    simpa using hs
  · rcases ho with h1 | ⟨g', h1, hg⟩
    · exact h2 g (by rw [← h1]; exact e)
    · rw [h1] at e; injection e with e; simp at hg; omega
  · rcases List.mem_append.1 he with he | he
    · have k1 := ((h3 e he).call hb).turns hT (fun _ _ _ h => h)
      exact ⟨k1.row, k1.ge, hnew _ ((h3 e he).call hb).row.lt k1.ap, k1.tb, k1.ln⟩
    · obtain rfl := List.mem_singleton.1 he
      have hne : ob ≠ some e.vb := fun e2 => by
        have h5 := hob _ e2
        have h6 : w.heap.size ≤ e.vb := hok.ge
        omega
      have k1 := hok.turns (S := fun k => ob = some k) hT (fun k hk h5 h6 => by
        have h7 := hob _ h6
        omega)
      exact ⟨k1.row, Nat.le_trans z0 k1.ge, hnew _ hok.row.lt hne, k1.tb, k1.ln⟩
  · exact hT.below (hbe.trans (hb.mono z0)) (by omega) (fun k hk e => by have := h2 k e; omega)
/-- What stands in the list: an event that was made, with a number of its own. -/
def EI.sq (x : EI) (vb : Nat) : EM := ⟨ty3 x.k, key3 (x.key.size % 3), x.t % 16, x.q % 4, vb, evVals x.k x.n x.s x.b⟩
theorem sq_ok {w : World} {B : Nat} {P : Nat → Prop} {x : EI} {vb : Nat} (h : EvOk w B P (x.made vb)) : EvOk w B P (EI.sq x vb) := ⟨h.row, h.ge, h.ap, h.tb, h.ln⟩
theorem take_at {P : Program} {ops : Array Oper} {Q : Exit → Act → World → Prop} {md : Region.Mode} {S : World → Prop} {fuel : Nat} {listed : Array Bool} {a : Act} {w : World} (i : Nat) (d : Tmp) (oi : Oper) {v : Value} (hi : ops[i]? = some oi) (hd : oi.dst = some d)
    (hs : Region.noSelect ops = true) (hf : Region.free md ops listed i = true) (hr : (Region.ready md ops listed).contains i = true)
    (hQ : ∀ c a w, Q (.panic c) (a.put oi.dst v) w → Q (.panic c) a w) (hy : YieldsIf P ops S oi v a) (hS : S w)
    (h : wpAnyH P md ops Q S fuel (listed.setIfInBounds i true) (a.put (some d) v) w) : wpAnyH P md ops Q S (fuel + 1) listed a w :=
  wpAnyH_take hi hs hf hr hQ hy hS (by rw [hd]; exact h)
theorem less_bef (t q t' q' a' : Int) : lessS t q 5 t' q' a' = (bef t q t' q' || (!bef t' q' t q && decide (5 < a'))) := by
  unfold lessS bef
  by_cases h1 : t = t'
  · subst h1
    by_cases h2 : q = q'
    · subst h2; simp
    · rcases Int.lt_or_gt_of_ne h2 with h | h
      · simp [h2, h]
      · have h4 : ¬ q < q' := by omega
        simp [h2, h, h4]
  · rcases Int.lt_or_gt_of_ne h1 with h | h
    · simp [h1, h]
    · have h4 : ¬ t < t' := by omega
      have h5 : ¬ t' = t := fun e => h1 e.symm
      simp [h1, h, h4, h5]
theorem put3 {X : World} {b : Nat} {t : TypeId} {c0 c1 c2 : Value} (r : Row X b t #[c0, c1, c2]) (u0 u1 u2 : Value) :
    Row (((X.setCell ⟨b, 0, none⟩ u0).setCell ⟨b, 1, none⟩ u1).setCell ⟨b, 2, none⟩ u2) b t #[u0, u1, u2] := by
  simpa using ((Row.put r 0 u0).put 1 u1).put 2 u2
structure Cut_E6P (C : Prop) where
  G1 : Prop
  G2 : Prop
  ok : Go.RowKit.Hid G1 → Go.RowKit.Hid G2 → Go.RowKit.Hid True → C
set_option maxHeartbeats 8000000 in
noncomputable def part_E6P (A : Option Addr) (n c : Nat) (F : Nat → EI) (at' : Int) (w : World) (hnc : n ≤ c) (hc : c ≤ 9223372036854775807) (HL : Hid (ELies w w.heap.size A n F)) (HMM : Hid (ML w)) :
    Cut_E6P (Calls Tryd.prog 4 #[.slice A n c, .int .i64 at'] w fun e w' => e = .returned (.bool true) ∧ Below w.heap.size w w') := by
  apply Cut_E6P.mk
  case ok =>
    intro g_1 g_2 g_last
    obtain ⟨i0, hi0, hz0, hz1, hz2⟩ := info_parts event_info
    have HST : Hid (EVS w (w.alloc (.cells #[] 24)) (.slice (some ⟨w.heap.size, 0, none⟩) 0 0) []) := Lib.hid ⟨⟨none, seg_none5 _ _ _ _, fun g e => (by cases e), fun e he => (by cases he)⟩, (Below.refl _ w).alloc (Nat.le_refl _) _⟩
    go_enter Tryd.func4, Tryd.ntmps4
    go_upto_block 0 with fail
    go_cut [5, 6, 7] (fun s5 s6 s7 wx => ∃ v5, v5 = s5 ∧ Hid (∃ es : List EM, EVS w wx v5 es ∧ es.length ≤ 20))
    case first =>
      go_wp2
      go_loopw [5, 6, 7] (fun s5 s6 s7 wr => ∃ k : Nat, k ≤ min n 20 ∧ s6 = .int .i64 k ∧ Hid (∃ es : List EM, EVS w wr s5 es ∧ es.length = k)) (fun _ s6 _ _ => min n 20 - (intOf s6).toNat)
      case atStart => exact ⟨0, by omega, rfl, [], HST.out, rfl⟩
      case round =>
        obtain ⟨k, hk, rfl, hes⟩ := hrel
        obtain ⟨es, hev, hlen⟩ := hes.out
        have HEV := Lib.hid hev
        have HLEN := Lib.hid hlen
        clear hes
        by_cases hlt : k < min n 20
        · have hkn : k < n := by omega
          have hkz : (k : Int) < (n : Int) := by omega
          have hkm : (k : Int) < 20 := by omega
          obtain ⟨g, o, rfl, hg, hcell, hok⟩ := HL.out.below hev.be hev.be.size k hkn
          have c0 : wr.cell? ⟨g, o + k * 5, none⟩ = some (.string (F k).ty) := hcell 0 _ rfl
          have c1 : wr.cell? ⟨g, o + k * 5 + 1, none⟩ = some (.string (F k).key) := hcell 1 _ rfl
          have c2 : wr.cell? ⟨g, o + k * 5 + 2, none⟩ = some (.int .i64 (F k).t) := hcell 2 _ rfl
          have c3 : wr.cell? ⟨g, o + k * 5 + 3, none⟩ = some (.int .i64 (F k).q) := hcell 3 _ rfl
          have c4 : wr.cell? ⟨g, o + k * 5 + 4, none⟩ = some (.slice (F k).va (F k).vn (F k).vc) := hcell 4 _ rfl
          have HE := Lib.hid (event_any (F k) wr hok)
          obtain ⟨x, hxk⟩ : ∃ x, F k = x := ⟨_, rfl⟩
          rw [hxk] at c0 c1 c2 c3 c4 HE
          obtain ⟨ob, hsg, hob, h3⟩ := hev.sg
          have HSG := Lib.hid hsg
          have HOB := Lib.hid hob
          have H3 := Lib.hid h3
          have hl9 : es.length ≤ 1000 := by omega
          have HL9 := Lib.hid hl9
          have hkc : k < c := by omega
          have hw1 : IntKind.i64.wrap ((k : Int) + 1) = (k : Int) + 1 := by rw [IntKind.wrap_i64]; omega
          have a3 := and3 x.q
          have HG := Lib.hid hg
          have C3 := Lib.hid c3
          clear hcell hok hxk hsg hob h3 hev hl9 hlen hg
          go_wp2_with fail
          refine HE.out.mono ?_
          rintro e w3 ⟨vb, rfl, hmade, hb3⟩
          have HM := Lib.hid (sq_ok hmade)
          have HB3 := Lib.hid hb3
          have HSG3 := Lib.hid (HSG.out.turns (Turns.of_below hb3) (fun _ _ h => h))
          have d3 : w3.cell? ⟨g, o + k * 5 + 3, none⟩ = some (.int .i64 x.q) := (hb3.cell (p := ⟨g, _, none⟩) HG.out).trans C3.out
          have d3a : ∀ ob : Obj, (w3.alloc ob).cell? ⟨g, o + k * 5 + 3, none⟩ = some (.int .i64 x.q) := fun ob => (((Below.refl w3.heap.size w3).alloc (Nat.le_refl _) ob).cell (p := ⟨g, o + k * 5 + 3, none⟩) (Nat.lt_of_lt_of_le HG.out hb3.size)).trans d3
          obtain ⟨L, hL⟩ : ∃ L, evVals x.k x.n x.s x.b = L := ⟨_, rfl⟩
          obtain ⟨m, hm'⟩ : ∃ m, L.length = m := ⟨_, rfl⟩
          obtain ⟨ty, hty⟩ : ∃ ty, ty3 x.k = ty := ⟨_, rfl⟩
          obtain ⟨ky, hky⟩ : ∃ ky, key3 (x.key.size % 3) = ky := ⟨_, rfl⟩
          obtain ⟨t, ht⟩ : ∃ t, x.t % 16 = t := ⟨_, rfl⟩
          rw [show (x.made vb).cells.toArray = #[.string ty, .string ky, .int .i64 t, .int .i64 0, .slice (some ⟨vb, 0, none⟩) m m] by rw [← hm', ← hL, ← hty, ← hky, ← ht]; rfl]
          have HNC : Hid ((EI.sq x vb).cells = [.string ty, .string ky, .int .i64 t, .int .i64 (x.q % 4), .slice (some ⟨vb, 0, none⟩) m m]) := Lib.hid (by rw [← hm', ← hL, ← hty, ← hky, ← ht]; rfl)
          clear hmade hb3 hL hm' hty hky ht c0 c1 c2 c3 c4
          go_wp2_with (at_builtin; refine wpList_append_seg _ rfl _ _ 39 rfl 24 i0 _ 5 72 Tryd.underlying39 hi0 hz0 hz1 hz2 rfl (by decide) _ es.length (es.flatMap EM.cells) ob rfl ((HSG3.out.alloc _).alloc _) ⟨w3.heap.size + 1, 0, none⟩ 1 1 [.string ty, .string ky, .int .i64 t, .int .i64 (x.q % 4), .slice (some ⟨vb, 0, none⟩) m m] rfl rfl (five_news _ _ _ _ _ _ _ (by simp)) (by simp [Value.oneCell']) (by decide) (by have := HL9.out; unfold maxLen; omega) (by have := HL9.out; omega) ?_; intro v5 w5 o5 hs5 ht5 ho5; have HS5 := Lib.hid hs5; have HT5 := Lib.hid ht5; have HO5 := Lib.hid ho5; clear hs5 ht5 ho5; go_frame)
          go_roundw
          case measure => simp [intOf]; omega
          case rel =>
            have hs5 := HS5.out
            rw [← HNC.out] at hs5
            have hX1 : Below w3.heap.size w3 (w3.alloc (.cells #[.string ty, .string ky, .int .i64 t, .int .i64 (x.q % 4), .slice (some ⟨vb, 0, none⟩) m m] 24)) := (Below.refl _ _).alloc (Nat.le_refl _) _
            exact ⟨k + 1, by omega, by go_num, es ++ [EI.sq x vb], EVS.push2 HSG.out HOB.out H3.out HEV.out.be (HB3.out.trans (hX1.mono HB3.out.size)) (HM.out.call hX1) hs5 HT5.out HO5.out, by rw [List.length_append, HLEN.out]; rfl⟩
        · have hk' : k = min n 20 := by omega
          have HK := Lib.hid (show k ≤ 20 by omega)
          by_cases hkn : k < n
          · have hkz : (k : Int) < (n : Int) := by omega
            have hkm : ¬ (k : Int) < 20 := by omega
            clear hk' hlt
            go_wp2
            go_meet
            exact ⟨_, rfl, Lib.hid ⟨es, HEV.out, by rw [HLEN.out]; exact HK.out⟩⟩
          · have hkz : ¬ (k : Int) < (n : Int) := by omega
            clear hk' hlt
            go_wp2
            go_meet
            exact ⟨_, rfl, Lib.hid ⟨es, HEV.out, by rw [HLEN.out]; exact HK.out⟩⟩
    case rest =>
      obtain ⟨v5, rfl, hcut2⟩ := hcut
      obtain ⟨es, hev, hlen⟩ := hcut2.out
      have HEV := Lib.hid hev
      have HLEN := Lib.hid hlen
      have HSRT := Lib.hid (sort_ev w wc v5 es es.length hev rfl hlen)
      clear hcut2 HST hlen
      go_wp2_with fail
      refine HSRT.out.mono ?_
      intro e w1 hs
      obtain ⟨v1, rfl, hel1, hb1⟩ := srt_el rfl hs
      have HE1 := Lib.hid hel1
      have HB1 := Lib.hid hb1
      have HEV1 := Lib.hid (EVS.call hev hb1)
      have HRS := Lib.hid (ref_sort w w1 v5 es es.length (EVS.call hev hb1) rfl HLEN.out)
      clear hs hel1 hb1 hev HSRT
      go_wp2_with fail
      refine HRS.out.mono ?_
      intro e w2 hs
      obtain ⟨v2, rfl, hel2, hb2⟩ := rs_el HEV1.out rfl hs
      have HE2 := Lib.hid hel2
      have HSA := Lib.hid (sameall_yes v1 v2 _ w2 (HE1.out.below hb2) hel2)
      have HEV2 := Lib.hid (EVS.call HEV1.out hb2)
      clear hs hel2 HRS hb2 HE1
      go_wp2_with fail
      refine HSA.out.mono ?_
      rintro e w3 ⟨rfl, hb3⟩
      have HEV3 := Lib.hid (EVS.call HEV2.out hb3)
      have hwb := (EVS.be HEV2.out).trans (hb3.mono (EVS.be HEV2.out).size)
      have HWW := Lib.hid hwb
      clear hwb HSA HEV HEV1 HEV2 HE2 HB1
      have hel0 := evs_el HEV3.out
      obtain ⟨C, hC⟩ : ∃ C, es.map conE = C := ⟨_, rfl⟩
      rw [hC] at hel0
      have HEL := Lib.hid hel0
      obtain ⟨A5, c5, rfl, hc1, hc2, hx0⟩ := hel0
      clear hx0
      obtain ⟨m, hm'⟩ : ∃ m, C.length = m := ⟨_, rfl⟩
      rw [hm'] at HEL hc1 HEV3 ⊢
      have HMM2 := Lib.hid hm'
      have HBB := Lib.hid (show Below w3.heap.size w3 w3 from Below.refl _ _)
      have hm6 : m ≤ 4611686018427387904 := by have := HLEN.out; rw [← HMM2.out, ← hC, List.length_map]; omega
      clear hm' hC HEV3 HLEN
      go_wp2
      go_loopw [9, 10, 11, 12] (fun s9 s10 s11 s12 wr => ∃ i : Nat, i ≤ m ∧ s9 = .int .i64 i ∧ Hid (Below w3.heap.size w3 wr)) (fun s9 _ _ _ _ => m - (intOf s9).toNat)
      case atStart => exact ⟨0, by omega, rfl, HBB⟩
      case round =>
        obtain ⟨i, hi, rfl, hb⟩ := hrel
        by_cases hlt : i < m
        · have hki : (i : Int) < (m : Int) := by omega
          have hiw : IntKind.i64.wrap ((i : Int) + 1) = (i : Int) + 1 := by rw [IntKind.wrap_i64]; omega
          go_wp2
          go_loopw [10, 11, 12] (fun s10 s11 s12 wr2 => ∃ k : Nat, k ≤ m ∧ s10 = .int .i64 k ∧ Hid (Below w3.heap.size w3 wr2)) (fun s10 _ _ _ => m - (intOf s10).toNat)
          case atStart => exact ⟨0, by omega, rfl, hb⟩
          case round =>
            obtain ⟨k, hk, rfl, hb2⟩ := hrel
            by_cases hlt2 : k < m
            · have hki2 : (k : Int) < (m : Int) := by omega
              have hkw : IntKind.i64.wrap ((k : Int) + 1) = (k : Int) + 1 := by rw [IntKind.wrap_i64]; omega
              have hiC : i < C.length := by rw [HMM2.out]; exact hlt
              have hkC : k < C.length := by rw [HMM2.out]; exact hlt2
              obtain ⟨x, hx⟩ : ∃ x, C[i]? = some x := ⟨C[i], List.getElem?_eq_getElem hiC⟩
              obtain ⟨y, hy⟩ : ∃ x, C[k]? = some x := ⟨C[k], List.getElem?_eq_getElem hkC⟩
              obtain ⟨A', c', e1, _, _, h3⟩ := HEL.out.below hb2.out
              injection e1 with e1 em e1'
              subst e1 e1'
              clear em
              obtain ⟨g1, o1, A1, n1, c1, rfl, hg1, ⟨p0, p1, p2, p3, p4⟩, hv1⟩ := h3 i x hx
              obtain ⟨g2, o2, A2, n2, c2, e2, hg2, ⟨q0, q1, q2, q3, q4⟩, hv2⟩ := h3 k y hy
              injection e2 with e2
              injection e2 with e2 e3
              subst e2 e3
              have hS : ∀ X, Below wr.heap.size wr X → X.cell? ⟨g1, o1 + i * 5, none⟩ = some (.string x.ty) ∧ X.cell? ⟨g1, o1 + i * 5 + 1, none⟩ = some (.string x.key) ∧ X.cell? ⟨g1, o1 + i * 5 + 2, none⟩ = some (.int .i64 x.t) ∧ X.cell? ⟨g1, o1 + i * 5 + 3, none⟩ = some (.int .i64 x.q) ∧ X.cell? ⟨g1, o1 + i * 5 + 4, none⟩ = some (.slice A1 n1 c1) ∧ X.cell? ⟨g1, o1 + k * 5, none⟩ = some (.string y.ty) ∧ X.cell? ⟨g1, o1 + k * 5 + 1, none⟩ = some (.string y.key) ∧ X.cell? ⟨g1, o1 + k * 5 + 2, none⟩ = some (.int .i64 y.t) ∧ X.cell? ⟨g1, o1 + k * 5 + 3, none⟩ = some (.int .i64 y.q) ∧ X.cell? ⟨g1, o1 + k * 5 + 4, none⟩ = some (.slice A2 n2 c2) := fun X hX =>
                ⟨(hX.cell (p := ⟨g1, _, none⟩) hg1).trans p0, (hX.cell (p := ⟨g1, _, none⟩) hg1).trans p1, (hX.cell (p := ⟨g1, _, none⟩) hg1).trans p2, (hX.cell (p := ⟨g1, _, none⟩) hg1).trans p3, (hX.cell (p := ⟨g1, _, none⟩) hg1).trans p4, (hX.cell (p := ⟨g1, _, none⟩) hg1).trans q0, (hX.cell (p := ⟨g1, _, none⟩) hg1).trans q1, (hX.cell (p := ⟨g1, _, none⟩) hg1).trans q2, (hX.cell (p := ⟨g1, _, none⟩) hg1).trans q3, (hX.cell (p := ⟨g1, _, none⟩) hg1).trans q4⟩
              have HS := Lib.hid hS
              have HV1 := Lib.hid hv1
              have HV2 := Lib.hid hv2
              clear hS hx hy h3 hv1 hv2 hg2 hiC hkC
              go_upto_region 17 with fail
              go_cut [11, 12] (fun s11 s12 wx => ∃ ba bb : Nat, s11 = .pointer (some ⟨ba, 0, none⟩) ∧ s12 = .pointer (some ⟨bb, 0, none⟩) ∧ Hid (Below wr.heap.size wr wx ∧ Row wx ba 43 #[.int .i64 x.t, .int .i64 x.q, .int .i64 5] ∧ Row wx bb 43 #[.int .i64 y.t, .int .i64 y.q, .int .i64 at']))
              case first =>
                (repeat (rename_i x_0 x_1 x_2 x_3 x_4 x_5 x_6 x_7 x_8 x_9 x_10 x_11 x_12 x_13 x_14 x_15 x_16 x_17 x_18 x_19 x_20 x_21 x_22 x_23 x_24 x_25 x_26 x_27 x_28 x_29 x_30 x_31 x_32 x_33 x_34 x_35 x_36 x_37 x_38 x_39 x_40 x_41 x_42 x_43 x_44 x_45 x_46 x_47 x_48 x_49 x_50 x_51 x_52 x_53 x_54 x_55 x_56 x_57 x_58 x_59 x_60 x_61 x_62 x_63; revert x_0 x_1 x_2 x_3 x_4 x_5 x_6 x_7 x_8 x_9 x_10 x_11 x_12 x_13 x_14 x_15 x_16 x_17 x_18 x_19 x_20 x_21 x_22 x_23 x_24 x_25 x_26 x_27 x_28 x_29 x_30 x_31 x_32 x_33 x_34 x_35 x_36 x_37 x_38 x_39 x_40 x_41 x_42 x_43 x_44 x_45 x_46 x_47 x_48 x_49 x_50 x_51 x_52 x_53 x_54 x_55 x_56 x_57 x_58 x_59 x_60 x_61 x_62 x_63))
                (repeat (rename_i x_0 x_1 x_2 x_3 x_4 x_5 x_6 x_7; revert x_0 x_1 x_2 x_3 x_4 x_5 x_6 x_7))
                (repeat (rename_i x_; revert x_))
                first | revert u4 u5 u6 u7 u8 u9 u10 u11 u12 u13 u14 u15 | ((try (revert u4)); (try (revert u5)); (try (revert u6)); (try (revert u7)); (try (revert u8)); (try (revert u9)); (try (revert u10)); (try (revert u11)); (try (revert u12)); (try (revert u13)); (try (revert u14)); (try (revert u15)))
                first | revert u16 u17 u18 u19 u20 u21 u22 u23 u24 u25 u26 u27 | ((try (revert u16)); (try (revert u17)); (try (revert u18)); (try (revert u19)); (try (revert u20)); (try (revert u21)); (try (revert u22)); (try (revert u23)); (try (revert u24)); (try (revert u25)); (try (revert u26)); (try (revert u27)))
                first | revert u28 u29 u30 u31 u32 u33 u34 u35 u36 u37 u38 u39 | ((try (revert u28)); (try (revert u29)); (try (revert u30)); (try (revert u31)); (try (revert u32)); (try (revert u33)); (try (revert u34)); (try (revert u35)); (try (revert u36)); (try (revert u37)); (try (revert u38)); (try (revert u39)))
                first | revert u40 u41 u42 u43 u44 u45 u46 u47 u48 u49 u50 u51 | ((try (revert u40)); (try (revert u41)); (try (revert u42)); (try (revert u43)); (try (revert u44)); (try (revert u45)); (try (revert u46)); (try (revert u47)); (try (revert u48)); (try (revert u49)); (try (revert u50)); (try (revert u51)))
                first | revert u52 u53 u54 u55 u56 u57 u58 u59 u60 u61 u62 u63 | ((try (revert u52)); (try (revert u53)); (try (revert u54)); (try (revert u55)); (try (revert u56)); (try (revert u57)); (try (revert u58)); (try (revert u59)); (try (revert u60)); (try (revert u61)); (try (revert u62)); (try (revert u63)))
                first | revert u64 u65 u66 u67 u68 u69 u70 u71 u72 u73 u74 u75 | ((try (revert u64)); (try (revert u65)); (try (revert u66)); (try (revert u67)); (try (revert u68)); (try (revert u69)); (try (revert u70)); (try (revert u71)); (try (revert u72)); (try (revert u73)); (try (revert u74)); (try (revert u75)))
                first | revert u76 u77 u78 u79 u80 u81 u82 u83 u84 u85 u86 u87 | ((try (revert u76)); (try (revert u77)); (try (revert u78)); (try (revert u79)); (try (revert u80)); (try (revert u81)); (try (revert u82)); (try (revert u83)); (try (revert u84)); (try (revert u85)); (try (revert u86)); (try (revert u87)))
                first | revert u88 u89 u90 u91 u92 u93 u94 u95 u96 u97 u98 u99 | ((try (revert u88)); (try (revert u89)); (try (revert u90)); (try (revert u91)); (try (revert u92)); (try (revert u93)); (try (revert u94)); (try (revert u95)); (try (revert u96)); (try (revert u97)); (try (revert u98)); (try (revert u99)))
                first | revert u100 u101 u102 u103 u104 u105 u106 u107 u108 u109 u110 u111 | ((try (revert u100)); (try (revert u101)); (try (revert u102)); (try (revert u103)); (try (revert u104)); (try (revert u105)); (try (revert u106)); (try (revert u107)); (try (revert u108)); (try (revert u109)); (try (revert u110)); (try (revert u111)))
                first | revert u112 u113 u114 u115 u116 u117 u118 u119 u120 u121 u122 u123 | ((try (revert u112)); (try (revert u113)); (try (revert u114)); (try (revert u115)); (try (revert u116)); (try (revert u117)); (try (revert u118)); (try (revert u119)); (try (revert u120)); (try (revert u121)); (try (revert u122)); (try (revert u123)))
                first | revert u124 u125 u126 u127 u128 u129 u130 u131 u132 u133 u134 u135 | ((try (revert u124)); (try (revert u125)); (try (revert u126)); (try (revert u127)); (try (revert u128)); (try (revert u129)); (try (revert u130)); (try (revert u131)); (try (revert u132)); (try (revert u133)); (try (revert u134)); (try (revert u135)))
                first | revert u136 u137 u138 u139 u140 u141 u142 u143 u144 u145 u146 u147 | ((try (revert u136)); (try (revert u137)); (try (revert u138)); (try (revert u139)); (try (revert u140)); (try (revert u141)); (try (revert u142)); (try (revert u143)); (try (revert u144)); (try (revert u145)); (try (revert u146)); (try (revert u147)))
                first | revert u148 u149 u150 u151 u152 u153 u154 u155 u156 u157 u158 u159 | ((try (revert u148)); (try (revert u149)); (try (revert u150)); (try (revert u151)); (try (revert u152)); (try (revert u153)); (try (revert u154)); (try (revert u155)); (try (revert u156)); (try (revert u157)); (try (revert u158)); (try (revert u159)))
                first | revert u160 u161 u162 u163 u164 | ((try (revert u160)); (try (revert u161)); (try (revert u162)); (try (revert u163)); (try (revert u164)))
                try revert i0
                try revert hi0
                try revert hz0
                try revert hz1
                try revert hz2
                try revert HST
                try revert t
                try revert some
                try revert size
                try revert g
                try revert v5
                try revert es
                try revert length
                try revert wr
                try revert k
                try revert hk
                try revert hes
                try revert hev
                try revert hlen
                try revert HEV
                try revert HLEN
                try revert hlt
                try revert hkn
                try revert hkz
                try revert hkm
                try revert o
                try revert hg
                try revert hcell
                try revert hok
                try revert c0
                try revert ty
                try revert c1
                try revert key
                try revert c2
                try revert c3
                try revert c4
                try revert HE
                try revert x
                try revert hxk
                try revert ob
                try revert hsg
                try revert hob
                try revert h3
                try revert HSG
                try revert HOB
                try revert H3
                try revert hl9
                try revert HL9
                try revert hkc
                try revert hw1
                try revert a3
                try revert HG
                try revert C3
                try revert w3
                try revert vb
                try revert hmade
                try revert hb3
                try revert HM
                try revert HB3
                try revert HSG3
                try revert d3
                try revert d3a
                try revert L
                try revert hL
                try revert evVals
                try revert s
                try revert b
                try revert m
                try revert hm'
                try revert hty
                try revert ty3
                try revert ky
                try revert hky
                try revert key3
                try revert ht
                try revert HNC
                try revert w5
                try revert o5
                try revert hs5
                try revert ht5
                try revert ho5
                try revert HS5
                try revert HT5
                try revert HO5
                try revert hX1
                try revert hk'
                try revert HK
                try revert hcut2
                try revert HSRT
                try revert wc
                try revert w1
                try revert hs
                try revert v1
                try revert hel1
                try revert hb1
                try revert HE1
                try revert HB1
                try revert HEV1
                try revert HRS
                try revert w2
                try revert v2
                try revert hel2
                try revert hb2
                try revert HE2
                try revert HSA
                try revert HEV2
                try revert HEV3
                try revert hwb
                try revert HWW
                try revert hel0
                try revert C
                try revert hC
                try revert map
                try revert conE
                try revert HEL
                try revert A5
                try revert c5
                try revert hc1
                try revert hc2
                try revert hx0
                try revert HMM2
                try revert HBB
                try revert hm6
                try revert i
                try revert hi
                try revert hb
                try revert hki
                try revert hiw
                try revert hlt2
                try revert hki2
                try revert hkw
                try revert hiC
                try revert hkC
                try revert hx
                try revert y
                try revert hy
                try revert A'
                try revert c'
                try revert e1
                try revert g1
                try revert o1
                try revert A1
                try revert n1
                try revert hg1
                try revert p0
                try revert p1
                try revert p2
                try revert p3
                try revert p4
                try revert hv1
                try revert g2
                try revert o2
                try revert A2
                try revert n2
                try revert e2
                try revert hg2
                try revert q0
                try revert q1
                try revert q2
                try revert q3
                try revert q4
                try revert hv2
                try revert hS
                try revert HS
                try revert HV1
                try revert HV2
                try revert e
                revert g_last
                exact g_1.out
              case rest =>
                (repeat (rename_i x_0 x_1 x_2 x_3 x_4 x_5 x_6 x_7 x_8 x_9 x_10 x_11 x_12 x_13 x_14 x_15 x_16 x_17 x_18 x_19 x_20 x_21 x_22 x_23 x_24 x_25 x_26 x_27 x_28 x_29 x_30 x_31 x_32 x_33 x_34 x_35 x_36 x_37 x_38 x_39 x_40 x_41 x_42 x_43 x_44 x_45 x_46 x_47 x_48 x_49 x_50 x_51 x_52 x_53 x_54 x_55 x_56 x_57 x_58 x_59 x_60 x_61 x_62 x_63; revert x_0 x_1 x_2 x_3 x_4 x_5 x_6 x_7 x_8 x_9 x_10 x_11 x_12 x_13 x_14 x_15 x_16 x_17 x_18 x_19 x_20 x_21 x_22 x_23 x_24 x_25 x_26 x_27 x_28 x_29 x_30 x_31 x_32 x_33 x_34 x_35 x_36 x_37 x_38 x_39 x_40 x_41 x_42 x_43 x_44 x_45 x_46 x_47 x_48 x_49 x_50 x_51 x_52 x_53 x_54 x_55 x_56 x_57 x_58 x_59 x_60 x_61 x_62 x_63))
                (repeat (rename_i x_0 x_1 x_2 x_3 x_4 x_5 x_6 x_7; revert x_0 x_1 x_2 x_3 x_4 x_5 x_6 x_7))
                (repeat (rename_i x_; revert x_))
                first | revert u4 u5 u6 u7 u8 u9 u10 u11 u12 u13 u14 u15 | ((try (revert u4)); (try (revert u5)); (try (revert u6)); (try (revert u7)); (try (revert u8)); (try (revert u9)); (try (revert u10)); (try (revert u11)); (try (revert u12)); (try (revert u13)); (try (revert u14)); (try (revert u15)))
                first | revert u16 u17 u18 u19 u20 u21 u22 u23 u24 u25 u26 u27 | ((try (revert u16)); (try (revert u17)); (try (revert u18)); (try (revert u19)); (try (revert u20)); (try (revert u21)); (try (revert u22)); (try (revert u23)); (try (revert u24)); (try (revert u25)); (try (revert u26)); (try (revert u27)))
                first | revert u28 u29 u30 u31 u32 u33 u34 u35 u36 u37 u38 u39 | ((try (revert u28)); (try (revert u29)); (try (revert u30)); (try (revert u31)); (try (revert u32)); (try (revert u33)); (try (revert u34)); (try (revert u35)); (try (revert u36)); (try (revert u37)); (try (revert u38)); (try (revert u39)))
                first | revert u40 u41 u42 u43 u44 u45 u46 u47 u48 u49 u50 u51 | ((try (revert u40)); (try (revert u41)); (try (revert u42)); (try (revert u43)); (try (revert u44)); (try (revert u45)); (try (revert u46)); (try (revert u47)); (try (revert u48)); (try (revert u49)); (try (revert u50)); (try (revert u51)))
                first | revert u52 u53 u54 u55 u56 u57 u58 u59 u60 u61 u62 u63 | ((try (revert u52)); (try (revert u53)); (try (revert u54)); (try (revert u55)); (try (revert u56)); (try (revert u57)); (try (revert u58)); (try (revert u59)); (try (revert u60)); (try (revert u61)); (try (revert u62)); (try (revert u63)))
                first | revert u64 u65 u66 u67 u68 u69 u70 u71 u72 u73 u74 u75 | ((try (revert u64)); (try (revert u65)); (try (revert u66)); (try (revert u67)); (try (revert u68)); (try (revert u69)); (try (revert u70)); (try (revert u71)); (try (revert u72)); (try (revert u73)); (try (revert u74)); (try (revert u75)))
                first | revert u76 u77 u78 u79 u80 u81 u82 u83 u84 u85 u86 u87 | ((try (revert u76)); (try (revert u77)); (try (revert u78)); (try (revert u79)); (try (revert u80)); (try (revert u81)); (try (revert u82)); (try (revert u83)); (try (revert u84)); (try (revert u85)); (try (revert u86)); (try (revert u87)))
                first | revert u88 u89 u90 u91 u92 u93 u94 u95 u96 u97 u98 u99 | ((try (revert u88)); (try (revert u89)); (try (revert u90)); (try (revert u91)); (try (revert u92)); (try (revert u93)); (try (revert u94)); (try (revert u95)); (try (revert u96)); (try (revert u97)); (try (revert u98)); (try (revert u99)))
                first | revert u100 u101 u102 u103 u104 u105 u106 u107 u108 u109 u110 u111 | ((try (revert u100)); (try (revert u101)); (try (revert u102)); (try (revert u103)); (try (revert u104)); (try (revert u105)); (try (revert u106)); (try (revert u107)); (try (revert u108)); (try (revert u109)); (try (revert u110)); (try (revert u111)))
                first | revert u112 u113 u114 u115 u116 u117 u118 u119 u120 u121 u122 u123 | ((try (revert u112)); (try (revert u113)); (try (revert u114)); (try (revert u115)); (try (revert u116)); (try (revert u117)); (try (revert u118)); (try (revert u119)); (try (revert u120)); (try (revert u121)); (try (revert u122)); (try (revert u123)))
                first | revert u124 u125 u126 u127 u128 u129 u130 u131 u132 u133 u134 u135 | ((try (revert u124)); (try (revert u125)); (try (revert u126)); (try (revert u127)); (try (revert u128)); (try (revert u129)); (try (revert u130)); (try (revert u131)); (try (revert u132)); (try (revert u133)); (try (revert u134)); (try (revert u135)))
                first | revert u136 u137 u138 u139 u140 u141 u142 u143 u144 u145 u146 u147 | ((try (revert u136)); (try (revert u137)); (try (revert u138)); (try (revert u139)); (try (revert u140)); (try (revert u141)); (try (revert u142)); (try (revert u143)); (try (revert u144)); (try (revert u145)); (try (revert u146)); (try (revert u147)))
                first | revert u148 u149 u150 u151 u152 u153 u154 u155 u156 u157 u158 u159 | ((try (revert u148)); (try (revert u149)); (try (revert u150)); (try (revert u151)); (try (revert u152)); (try (revert u153)); (try (revert u154)); (try (revert u155)); (try (revert u156)); (try (revert u157)); (try (revert u158)); (try (revert u159)))
                first | revert u160 u161 u162 u163 u164 | ((try (revert u160)); (try (revert u161)); (try (revert u162)); (try (revert u163)); (try (revert u164)))
                try revert i0
                try revert hi0
                try revert hz0
                try revert hz1
                try revert hz2
                try revert HST
                try revert t
                try revert some
                try revert size
                try revert g
                try revert v5
                try revert es
                try revert length
                try revert wr
                try revert k
                try revert hk
                try revert hes
                try revert hev
                try revert hlen
                try revert HEV
                try revert HLEN
                try revert hlt
                try revert hkn
                try revert hkz
                try revert hkm
                try revert o
                try revert hg
                try revert hcell
                try revert hok
                try revert c0
                try revert ty
                try revert c1
                try revert key
                try revert c2
                try revert c3
                try revert c4
                try revert HE
                try revert x
                try revert hxk
                try revert ob
                try revert hsg
                try revert hob
                try revert h3
                try revert HSG
                try revert HOB
                try revert H3
                try revert hl9
                try revert HL9
                try revert hkc
                try revert hw1
                try revert a3
                try revert HG
                try revert C3
                try revert w3
                try revert vb
                try revert hmade
                try revert hb3
                try revert HM
                try revert HB3
                try revert HSG3
                try revert d3
                try revert d3a
                try revert L
                try revert hL
                try revert evVals
                try revert s
                try revert b
                try revert m
                try revert hm'
                try revert hty
                try revert ty3
                try revert ky
                try revert hky
                try revert key3
                try revert ht
                try revert HNC
                try revert w5
                try revert o5
                try revert hs5
                try revert ht5
                try revert ho5
                try revert HS5
                try revert HT5
                try revert HO5
                try revert hX1
                try revert hk'
                try revert HK
                try revert hcut2
                try revert HSRT
                try revert wc
                try revert w1
                try revert hs
                try revert v1
                try revert hel1
                try revert hb1
                try revert HE1
                try revert HB1
                try revert HEV1
                try revert HRS
                try revert w2
                try revert v2
                try revert hel2
                try revert hb2
                try revert HE2
                try revert HSA
                try revert HEV2
                try revert HEV3
                try revert hwb
                try revert HWW
                try revert hel0
                try revert C
                try revert hC
                try revert map
                try revert conE
                try revert HEL
                try revert A5
                try revert c5
                try revert hc1
                try revert hc2
                try revert hx0
                try revert HMM2
                try revert HBB
                try revert hm6
                try revert i
                try revert hi
                try revert hb
                try revert hki
                try revert hiw
                try revert hlt2
                try revert hki2
                try revert hkw
                try revert hiC
                try revert hkC
                try revert hx
                try revert y
                try revert hy
                try revert A'
                try revert c'
                try revert e1
                try revert g1
                try revert o1
                try revert A1
                try revert n1
                try revert hg1
                try revert p0
                try revert p1
                try revert p2
                try revert p3
                try revert p4
                try revert hv1
                try revert g2
                try revert o2
                try revert A2
                try revert n2
                try revert e2
                try revert hg2
                try revert q0
                try revert q1
                try revert q2
                try revert q3
                try revert q4
                try revert hv2
                try revert hS
                try revert HS
                try revert HV1
                try revert HV2
                try revert e
                revert g_last
                exact g_2.out
            · have hki2 : ¬ (k : Int) < (m : Int) := by omega
              clear hlt2 hk
              go_wp2
              go_roundw
              case rel => exact ⟨i + 1, by omega, by go_num, hb2⟩
              case measure => simp [intOf]; omega
        · have hki : ¬ (i : Int) < (m : Int) := by omega
          have HAW := Lib.hid (awake04 _ (HMM.out.below (HWW.out.trans (hb.out.mono HWW.out.size))))
          go_wp2_with fail
          refine HAW.out.mono ?_
          rintro e w9 ⟨rfl, hb9⟩
          dsimp only
          have HB9 := Lib.hid hb9
          clear hb9
          go_wp2
          go_ret
          exact ⟨rfl, (HWW.out.trans (hb.out.mono HWW.out.size)).trans (HB9.out.mono (HWW.out.trans (hb.out.mono HWW.out.size)).size)⟩
end Go.Proofs.YtookojgemipakaaDoor.E6
