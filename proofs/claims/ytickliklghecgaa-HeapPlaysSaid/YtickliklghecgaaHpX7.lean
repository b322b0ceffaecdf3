/- The law HeapPlays: a leaf. -/
import Derived.Test.YtickliklghecgaaHpX
import Derived.Deep.RegionHeld3
import Derived.Deep.DeepCutAuto
import Derived.Deep.CutBlock
import Derived.BigQuiet
namespace Go.Proofs.Ytickliklghecgaa.Hp
open Go.RowKit Go.Proofs.Ytickliklghecgaa Go.Proofs.Ytickliklghecgaa.Mut
set_option linter.unusedVariables false
set_option maxRecDepth 100000
set_option maxHeartbeats 20000000 in
theorem part1_g7 (ga oa n c : Nat) (f g h : Nat → Int) (ln : n ≤ c) (lc : c ≤ 9223372036854775807) (w : World) (HL : Hid (∀ k, k < n → ga < w.heap.size ∧ w.cell? ⟨ga, oa + k * 3, none⟩ = some (.int .i64 (f k)) ∧ w.cell? ⟨ga, oa + k * 3 + 1, none⟩ = some (.int .i64 (g k)) ∧ w.cell? ⟨ga, oa + k * 3 + 2, none⟩ = some (.int .i64 (h k)))) : (part1 ga oa n c f g h ln lc w HL).G7 := by
  delta part1
  intro g_last
  unhygienic intros
  have hend : (i < n ∧ decide ((i : Int) < 60) = false) ∨ ¬ i < n := by
    by_cases hh : i < n
    · exact .inl ⟨hh, by simp; omega⟩
    · exact .inr hh
  obtain ⟨A4, c4, rfl, hn4, hm4⟩ := hp.sl.form
  have hlen := hq.prm.length_eq
  have hml : m.length ≤ 60 := by have := hq.len; omega
  obtain ⟨L, hL⟩ : ∃ L, m.length = L := ⟨_, rfl⟩
  have hxL : xs.length = L := by omega
  obtain ⟨hsel, _⟩ := sel_outs m.length hq.ord hq.prm (Nat.le_refl _)
  rw [hL] at hsel
  have HSEL := Lib.hid hsel
  have HLM := Lib.hid hL
  have HXL := Lib.hid hxL
  obtain ⟨R, hR⟩ : ∃ R, outs L xs = R := ⟨_, rfl⟩
  have hRl : R.length = L := by rw [← hR, outs_len]
  have HR := Lib.hid hR
  have HRL := Lib.hid hRl
  have hL60 : L ≤ 60 := by omega
  have hlnn := len_any w1.heap.size v ob xs
  rw [hxL] at hlnn
  have HLN := Lib.hid hlnn
  clear hp hq hlen hml hsel hL hxL hR hRl hlnn hm4
  rcases hend with ⟨hin, h60⟩ | hin
  all_goals
    go_wp2_with fail
    refine (all_any w1.heap.size v ob xs V HP.out.fr.hm (by rw [HXL.out]; omega)).mono ?_
    rintro e V3 ⟨va, oa, rfl, hma⟩
    have hsa := hma.sl
    rw [HXL.out, HR.out] at hsa
    have HP3 := Lib.hid (HP.out.call hma.be)
    have HSA := Lib.hid hsa
    obtain ⟨Aa, ca, e, hna, hca⟩ := hsa.form
    rw [HRL.out] at e hna
    subst e
    have hca2 : ca ≤ 9223372036854775807 := by unfold maxLen at hca; omega
    clear hma hsa hca
    go_wp2_with fail
    refine (sorted_any _ om m V3 HP3.out.sl (by rw [HLM.out]; omega)).mono ?_
    rintro e V4 ⟨vs, os, rfl, hms⟩
    have hss := hms.sl
    rw [HLM.out, HSEL.out, HR.out] at hss
    have HP4 := Lib.hid (HP3.out.call hms.be)
    have HSS := Lib.hid hss
    have HSA4 := Lib.hid (show Sl V4 (.slice Aa L ca) oa R from HSA.out.turns (Turns.of_below hms.be) (fun _ _ x => x))
    obtain ⟨As, cs, e, hns, hcs⟩ := hss.form
    rw [HRL.out] at e hns
    subst e
    have hcs2 : cs ≤ 9223372036854775807 := by unfold maxLen at hcs; omega
    clear hms hss hcs
    go_wp2_with fail
    refine (HLN.out _ HP4.out.fr.hm).mono ?_
    rintro e w' ⟨rfl, rfl⟩
    rw [HLM.out]
    go_wp2
    go_loopw [19] (fun s19 wr => ∃ j : Nat, j ≤ L ∧ s19 = .int .i64 j ∧ Hid (Below V4.heap.size V4 wr)) (fun s19 _ => L - (intOf s19).toNat)
    case atStart => exact ⟨0, Nat.zero_le _, rfl, Lib.hid (Below.refl _ _)⟩
    case round =>
      obtain ⟨j, hjL, rfl, hbj⟩ := hrel
      have HBJ := Lib.hid hbj.out
      clear hbj
      by_cases hjl : j < L
      · have hji : (j : Int) < (L : Int) := by omega
        obtain ⟨gg, ogg, cg, eg, _, hn3, hn4', hcg⟩ := Sl.at (show Sl wr _ oa R from HSA4.out.turns (Turns.of_below HBJ.out) (fun _ _ x => x)) (by rw [HRL.out]; omega)
        rw [HRL.out] at eg hn3
        injection eg with e1 e2 e3
        subst e1 e3
        obtain ⟨gs, ogs, cg', eg', _, hn5, hn6, hcs⟩ := Sl.at (show Sl wr _ os R from HSS.out.turns (Turns.of_below HBJ.out) (fun _ _ x => x)) (by rw [HRL.out]; omega)
        rw [HRL.out] at eg' hn5
        injection eg' with e1 e4 e3
        subst e1 e3
        obtain ⟨g0, g1, g2⟩ := hcg j (by rw [HRL.out]; exact hjl)
        obtain ⟨y0, y1, y2⟩ := hcs j (by rw [HRL.out]; exact hjl)
        obtain ⟨z, hz⟩ : ∃ z, gt R j = z := ⟨_, rfl⟩
        rw [hz] at g0 g1 g2 y0 y1 y2
        clear hcg hcs e2 e4 hz
        go_upto_region 45 with fail
        go_quiet (fail)
        go_wp2
        go_roundw
        case rel => exact ⟨j + 1, by omega, by go_num, Lib.hid (below_drewN HBJ.out _)⟩
        case measure => simp [intOf]; omega
      · obtain rfl : j = L := by omega
        go_wp2_with fail
        refine (awake_any _).mono ?_
        rintro e V9 ⟨rfl, hb9⟩
        have HB9 := Lib.hid (HBJ.out.trans (hb9.mono HBJ.out.size))
        clear hb9
        go_wp2
        go_ret
        exact ⟨rfl, HP4.out.fr.be.trans (HB9.out.mono HP4.out.fr.be.size)⟩
end Go.Proofs.Ytickliklghecgaa.Hp
