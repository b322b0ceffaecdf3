/- The law HeapPlays: a leaf. -/
import Derived.Test.YtickliklghecgaaHpX
import Derived.Deep.RegionHeld3
import Derived.Deep.DeepCutAuto
import Derived.Deep.CutBlock
import Derived.BigQuiet
namespace Go.Proofs.Ytickliklghecgaa.Hp
open Go.RowKit Go.Proofs.Ytickliklghecgaa Go.Proofs.Ytickliklghecgaa.Mut
set_option linter.unusedVariables false
set_option maxRecDepth 100000
set_option maxHeartbeats 20000000 in
theorem part1_g5 (ga oa n c : Nat) (f g h : Nat → Int) (ln : n ≤ c) (lc : c ≤ 9223372036854775807) (w : World) (HL : Hid (∀ k, k < n → ga < w.heap.size ∧ w.cell? ⟨ga, oa + k * 3, none⟩ = some (.int .i64 (f k)) ∧ w.cell? ⟨ga, oa + k * 3 + 1, none⟩ = some (.int .i64 (g k)) ∧ w.cell? ⟨ga, oa + k * 3 + 2, none⟩ = some (.int .i64 (h k)))) : (part1 ga oa n c f g h ln lc w HL).G5 := by
  delta part1
  intro g_last
  unhygienic intros
  have hm2 : xs.length ≤ 65536 := by have := HQ.out.prm.length_eq; have := HQ.out.len; omega
  go_wp2_with fail
  refine (upto_any x w1.heap.size ob v xs hm2 V2 HP2.out.fr.hm).mono ?_
  rintro e V3 ⟨v3, og, ys, rfl, hgl, ⟨K, v4, hys, hK, hm4, hmg, hend⟩, htr⟩
  subst hys
  have HP3 := Lib.hid (HP2.out.heap hm4 htr (.inl rfl))
  have hgs : Sl V3 v3 og (outs K xs) := hgl.seg
  have rx3 := HXB.out.turns htr HXN.out
  have HMG := Lib.hid hmg
  have HEND := Lib.hid hend
  have hlen := HQ.out.prm.length_eq
  have hol : (outs K xs).length = K := outs_len K xs
  obtain ⟨A10, c10, e10, hn10, hm10⟩ := hgs.form
  rw [hol] at e10 hn10
  subst e10
  have hc10 : c10 ≤ 9223372036854775807 := by unfold maxLen at hm10; omega
  have HGS := Lib.hid hgs
  have HRX := Lib.hid rx3
  have HOL := Lib.hid hol
  have HLEN := Lib.hid hlen
  have hi60 : i ≤ 60 := by omega
  have hml : m.length ≤ i := HQ.out.len
  clear hgl hm4 htr hgs rx3 hmg hend hlen hol x0 x1 x2 d0 hm10
  go_wp2
  go_loopw [4, 11] (fun s4 s11 wr => ∃ j : Nat, j ≤ K ∧ s11 = .int .i64 j ∧ Hid (∃ oj, Pm w wr w1.heap.size v4 ob (pops K xs) s4 oj (rest j m)) ∧ Hid (Below V3.heap.size V3 wr)) (fun _ s11 _ => K - (intOf s11).toNat)
  case atStart => exact ⟨0, Nat.zero_le _, rfl, Lib.hid ⟨_, HP3.out⟩, Lib.hid (Below.refl _ _)⟩
  case round =>
    obtain ⟨j, hjK, rfl, hpj, hbj⟩ := hrel
    obtain ⟨oj, hpj⟩ := hpj.out
    obtain ⟨W, rfl⟩ : ∃ W, W = wr := ⟨_, rfl⟩
    have HPJ := Lib.hid hpj
    have HBJ := Lib.hid hbj.out
    have hrl : (rest j m).length = m.length - j := rest_len j m (by rw [← HLEN.out]; omega)
    obtain ⟨A4, c4, e4, hn4, hm4⟩ := hpj.sl.form
    rw [hrl] at e4 hn4
    subst e4
    have hc4 : c4 ≤ 9223372036854775807 := by unfold maxLen at hm4; omega
    have HRL := Lib.hid hrl
    have hmK : K ≤ m.length := by rw [← HLEN.out]; exact hK
    clear hpj hbj hrl hm4
    by_cases hjk : j < K
    · have hji : (j : Int) < (K : Int) := by omega
      have hpos : 0 < (rest j m).length := by rw [HRL.out]; omega
      obtain ⟨l1, l2, l3⟩ := lstI_spec hpos
      obtain ⟨k, hk⟩ : ∃ k, lstI (rest j m) = k := ⟨_, rfl⟩
      obtain ⟨hqj, hroot⟩ := (HQ.out.pops j (by omega)).pop hpos
      have hgj : gt (outs K xs) j = gt (rest j m) (lstI (rest j m)) := by rw [outs_get K xs j hjk]; exact hroot
      have hmgj := HMG.out j hjk
      rw [← outs_get K xs j hjk] at hmgj
      rw [hk] at l1 l2 hgj
      obtain ⟨z, hz⟩ : ∃ z, gt (rest j m) k = z := ⟨_, rfl⟩
      rw [hz] at hgj
      rw [hgj] at hmgj
      have hlt : decide (lt x z) = false := by simpa using hmgj
      have hle := least_any _ oj (rest j m) W HPJ.out.sl (by rw [HRL.out]; omega)
      rw [l2] at hle
      have HLE := Lib.hid hle
      have HZ := Lib.hid hz
      have HGJ := Lib.hid hgj
      have HLT := Lib.hid hlt
      have HK1 := Lib.hid hk
      clear hle l2 l3 hk hqj hroot hgj hmgj hz hlt
      go_wp2_with fail
      refine HLE.out.mono ?_
      rintro e V5 ⟨rfl, hb5⟩
      have HP5 := Lib.hid (HPJ.out.call hb5)
      have HB5 := Lib.hid (HBJ.out.trans (hb5.mono HBJ.out.size))
      have hs35 := HB5.out.size
      obtain ⟨gm, omm, cm, em, _, hn1, hn2, hcl⟩ := HP5.out.sl.at hpos
      rw [HRL.out] at em hn1
      injection em with e1 e2 e3
      subst e1 e3
      obtain ⟨y0, y1, y2⟩ := hcl k l1
      rw [HZ.out] at y0 y1 y2
      obtain ⟨gg, ogg, cg, eg, hog, hn3, hn4', hcg⟩ := Sl.at (show Sl V5 _ og (outs K xs) from HGS.out.turns (Turns.of_below HB5.out) (fun _ _ x => x)) (by rw [HOL.out]; omega)
      rw [HOL.out] at eg hn3
      injection eg with e1 e3' e4
      subst e1 e4
      obtain ⟨g0, g1, g2⟩ := hcg j (by rw [HOL.out]; exact hjk)
      rw [HGJ.out] at g0 g1 g2
      have rx5 := HRX.out.below HB5.out HRX.out.lt
      have x0 : V5.cell? ⟨V.heap.size, 0, none⟩ = some (.int .i64 x.t) := (rx5.cell 0).trans rfl
      have x1 : V5.cell? ⟨V.heap.size, 1, none⟩ = some (.int .i64 x.q) := (rx5.cell 1).trans rfl
      have x2 : V5.cell? ⟨V.heap.size, 2, none⟩ = some (.int .i64 x.a) := (rx5.cell 2).trans rfl
      have hgmV : gm < V5.heap.size := HP5.out.sl.lt gm (by assumption)
      have hggV : gg < V5.heap.size := Nat.lt_of_lt_of_le (HGS.out.lt gg (by assumption)) hs35
      have hxbV : V.heap.size < V5.heap.size := rx5.lt
      have hkd : decide ((k : Int) < 0) = false := decide_eq_false (by omega)
      have hkn : (k : Int) < ((m.length - j : Nat) : Int) := by rw [HRL.out] at l1; omega
      clear hb5 hcl hcg e2 e3' rx5
      go_upto_region 29 with fail
      go_region_held3 (fun X => X.cell? ⟨V.heap.size, 0, none⟩ = some (.int .i64 x.t) ∧ X.cell? ⟨V.heap.size, 1, none⟩ = some (.int .i64 x.q) ∧ X.cell? ⟨V.heap.size, 2, none⟩ = some (.int .i64 x.a) ∧ X.cell? ⟨gg, ogg + j * 3, none⟩ = some (.int .i64 z.t) ∧ X.cell? ⟨gg, ogg + j * 3 + 1, none⟩ = some (.int .i64 z.q) ∧ X.cell? ⟨gg, ogg + j * 3 + 2, none⟩ = some (.int .i64 z.a) ∧ X.cell? ⟨gm, omm + k * 3, none⟩ = some (.int .i64 z.t) ∧ X.cell? ⟨gm, omm + k * 3 + 1, none⟩ = some (.int .i64 z.q) ∧ X.cell? ⟨gm, omm + k * 3 + 2, none⟩ = some (.int .i64 z.a))
        (first | exact ⟨x0, x1, x2, g0, g1, g2, y0, y1, y2⟩ | exact ⟨(HB6.out.cell (p := ⟨V.heap.size, 0, none⟩) hxbV).trans x0, (HB6.out.cell (p := ⟨V.heap.size, 1, none⟩) hxbV).trans x1, (HB6.out.cell (p := ⟨V.heap.size, 2, none⟩) hxbV).trans x2, (HB6.out.cell (p := ⟨gg, ogg + j * 3, none⟩) hggV).trans g0, (HB6.out.cell (p := ⟨gg, ogg + j * 3 + 1, none⟩) hggV).trans g1, (HB6.out.cell (p := ⟨gg, ogg + j * 3 + 2, none⟩) hggV).trans g2, (HB6.out.cell (p := ⟨gm, omm + k * 3, none⟩) hgmV).trans y0, (HB6.out.cell (p := ⟨gm, omm + k * 3 + 1, none⟩) hgmV).trans y1, (HB6.out.cell (p := ⟨gm, omm + k * 3 + 2, none⟩) hgmV).trans y2⟩ | fail)
        ((
          go_at_call 10
          refine (less_any x z _).mono ?_
          rintro e V6 ⟨rfl, hb6⟩
          rw [HLT.out]
          have HB6 : Hid (Below V5.heap.size V5 V6) := Lib.hid ((show Below V5.heap.size V5 _ from by go_grown).trans (hb6.mono (show Below V5.heap.size V5 _ from by go_grown).size))
          clear hb6))
      all_goals
        go_wp2_with fail
        refine (without_any _ oj (rest j m) k V6 (HP5.out.call HB6.out).sl l1 (by rw [HRL.out]; omega)).mono ?_
        rintro e V7 ⟨v7, o7, rfl, hm7⟩
        have HP7 := Lib.hid ((HP5.out.call HB6.out).list hm7)
        have HB7 := Lib.hid ((HB5.out.trans (HB6.out.mono HB5.out.size)).trans (hm7.be.mono (Nat.le_trans hs35 HB6.out.size)))
        obtain ⟨A7, c7, rfl, _⟩ := hm7.sl.form
        clear hm7
        go_wp2
        go_roundw
        case rel => exact ⟨j + 1, by omega, by go_num, Lib.hid ⟨_, by rw [rest_succ, HK1.out]; exact HP7.out⟩, Lib.hid HB7.out⟩
        case measure => simp [intOf]; omega
    · obtain rfl : j = K := by omega
      have hqj := HQ.out.pops j (by omega)
      have HQJ := Lib.hid hqj
      have hrx := HRX.out.below HBJ.out HRX.out.lt
      have HRXW := Lib.hid hrx
      clear hqj hrx
      rcases Nat.eq_zero_or_pos (rest j m).length with hr0 | hpos
      · have elk : lk (rest j m) (rest j m).length = -1 := by rw [hr0]; rfl
        have hle := least_any _ oj (rest j m) W HPJ.out.sl (by omega)
        rw [elk] at hle
        have HLE := Lib.hid hle
        clear hle elk hr0
        go_wp2_with fail
        refine HLE.out.mono ?_
        rintro e V5 ⟨rfl, hb5⟩
        have HP5 := Lib.hid (HPJ.out.call hb5)
        clear hb5
        go_upto_region 33 with fail
        go_quiet (fail)
        go_wp2
        go_meet
        exact Lib.hid ⟨_, _, _, _, _, HP5.out.call (below_drewN (Below.refl _ _) _), HQJ.out.more (Nat.le_succ _)⟩
      · obtain ⟨l1, l2, l3⟩ := lstI_spec hpos
        obtain ⟨k, hk⟩ : ∃ k, lstI (rest j m) = k := ⟨_, rfl⟩
        obtain ⟨_, hroot⟩ := HQJ.out.pop hpos
        have hmg0 : (!decide (lt x (gt (pops j xs) 0))) = false := by
          rcases HEND.out (by first | rfl | trivial) with h | h
          · rw [HRL.out, ← HLEN.out, h] at hpos; omega
          · exact h
        rw [hroot] at hmg0
        rw [hk] at l1 l2 hmg0
        obtain ⟨z, hz⟩ : ∃ z, gt (rest j m) k = z := ⟨_, rfl⟩
        rw [hz] at hmg0
        have hlt : decide (lt x z) = true := by simpa using hmg0
        have hle := least_any _ oj (rest j m) W HPJ.out.sl (by rw [HRL.out]; omega)
        rw [l2] at hle
        have HLE := Lib.hid hle
        have HZ := Lib.hid hz
        have HLT := Lib.hid hlt
        clear hle l2 l3 hk hroot hmg0 hz hlt
        go_wp2_with fail
        refine HLE.out.mono ?_
        rintro e V5 ⟨rfl, hb5⟩
        have HP5 := Lib.hid (HPJ.out.call hb5)
        obtain ⟨gm, omm, cm, em, _, hn1, hn2, hcl⟩ := HP5.out.sl.at hpos
        rw [HRL.out] at em hn1
        injection em with e1 e2 e3
        subst e1 e3
        obtain ⟨y0, y1, y2⟩ := hcl k l1
        rw [HZ.out] at y0 y1 y2
        have rx5 := HRXW.out.below hb5 HRXW.out.lt
        have x0 : V5.cell? ⟨V.heap.size, 0, none⟩ = some (.int .i64 x.t) := (rx5.cell 0).trans rfl
        have x1 : V5.cell? ⟨V.heap.size, 1, none⟩ = some (.int .i64 x.q) := (rx5.cell 1).trans rfl
        have x2 : V5.cell? ⟨V.heap.size, 2, none⟩ = some (.int .i64 x.a) := (rx5.cell 2).trans rfl
        have hgmV : gm < V5.heap.size := HP5.out.sl.lt gm (by assumption)
        have hxbV : V.heap.size < V5.heap.size := rx5.lt
        have hk0 : decide ((0 : Int) ≤ (k : Int)) = true := by simp
        have hkn : (k : Int) < ((m.length - j : Nat) : Int) := by rw [HRL.out] at l1; omega
        clear hb5 hcl e2 rx5
        go_upto_region 33 with fail
        go_region_held3 (fun X => X.cell? ⟨V.heap.size, 0, none⟩ = some (.int .i64 x.t) ∧ X.cell? ⟨V.heap.size, 1, none⟩ = some (.int .i64 x.q) ∧ X.cell? ⟨V.heap.size, 2, none⟩ = some (.int .i64 x.a) ∧ X.cell? ⟨gm, omm + k * 3, none⟩ = some (.int .i64 z.t) ∧ X.cell? ⟨gm, omm + k * 3 + 1, none⟩ = some (.int .i64 z.q) ∧ X.cell? ⟨gm, omm + k * 3 + 2, none⟩ = some (.int .i64 z.a))
          (first | exact ⟨x0, x1, x2, y0, y1, y2⟩ | exact ⟨(HB6.out.cell (p := ⟨V.heap.size, 0, none⟩) hxbV).trans x0, (HB6.out.cell (p := ⟨V.heap.size, 1, none⟩) hxbV).trans x1, (HB6.out.cell (p := ⟨V.heap.size, 2, none⟩) hxbV).trans x2, (HB6.out.cell (p := ⟨gm, omm + k * 3, none⟩) hgmV).trans y0, (HB6.out.cell (p := ⟨gm, omm + k * 3 + 1, none⟩) hgmV).trans y1, (HB6.out.cell (p := ⟨gm, omm + k * 3 + 2, none⟩) hgmV).trans y2⟩ | fail)
          ((
            go_at_call 10
            refine (less_any x z _).mono ?_
            rintro e V6 ⟨rfl, hb6⟩
            rw [HLT.out]
            have HB6 : Hid (Below V5.heap.size V5 V6) := Lib.hid ((show Below V5.heap.size V5 _ from by go_grown).trans (hb6.mono (show Below V5.heap.size V5 _ from by go_grown).size))
            clear hb6))
        all_goals
          go_wp2
          go_meet
          exact Lib.hid ⟨_, _, _, _, _, HP5.out.call HB6.out, HQJ.out.more (Nat.le_succ _)⟩
end Go.Proofs.Ytickliklghecgaa.Hp
