/- The law HeapPlays: a leaf. -/
import Derived.Test.YtickliklghecgaaHpX
import Derived.Deep.RegionHeld3
import Derived.Deep.DeepCutAuto
import Derived.Deep.CutBlock
import Derived.BigQuiet
namespace Go.Proofs.Ytickliklghecgaa.Hp
open Go.RowKit Go.Proofs.Ytickliklghecgaa Go.Proofs.Ytickliklghecgaa.Mut
set_option linter.unusedVariables false
set_option maxRecDepth 100000
set_option maxHeartbeats 20000000 in
theorem part1_g6 (ga oa n c : Nat) (f g h : Nat → Int) (ln : n ≤ c) (lc : c ≤ 9223372036854775807) (w : World) (HL : Hid (∀ k, k < n → ga < w.heap.size ∧ w.cell? ⟨ga, oa + k * 3, none⟩ = some (.int .i64 (f k)) ∧ w.cell? ⟨ga, oa + k * 3 + 1, none⟩ = some (.int .i64 (g k)) ∧ w.cell? ⟨ga, oa + k * 3 + 2, none⟩ = some (.int .i64 (h k)))) : (part1 ga oa n c f g h ln lc w HL).G6 := by
  delta part1
  intro g_last
  unhygienic intros
  obtain ⟨v2, ob2, xs2, om2, m2, hp2, hq2⟩ := hcut.out
  obtain ⟨W, rfl⟩ : ∃ W, W = wc := ⟨_, rfl⟩
  obtain ⟨B4, d4, rfl, hn5, hm5⟩ := hp2.sl.form
  have HP9 := Lib.hid hp2
  have HQ9 := Lib.hid hq2
  have hxl : xs2.length = m2.length := hq2.prm.length_eq
  have hm61 : m2.length ≤ i + 1 := hq2.len
  have hd4 : d4 ≤ 9223372036854775807 := by unfold maxLen at hm5; omega
  have hl0 := len_any w1.heap.size v2 ob2 xs2
  rw [hxl] at hl0
  have HLN := Lib.hid hl0
  have HXL := Lib.hid hxl
  clear hcut hp2 hq2 hxl hm5 hl0 x0 x1 x2 d0 HP2 HQ HP
  rcases Nat.eq_zero_or_pos m2.length with hm0 | hm0
  · have hmn : m2 = [] := List.eq_nil_of_length_eq_zero hm0
    have hxn : xs2 = [] := List.eq_nil_of_length_eq_zero (by rw [HXL.out]; exact hm0)
    have hle := least_any _ om2 m2 W HP9.out.sl (by omega)
    have elk : lk m2 m2.length = -1 := by rw [hm0]; rfl
    rw [elk] at hle
    have HLE := Lib.hid hle
    have HXN2 := Lib.hid hxn
    clear hle elk hmn hxn hm0
    go_wp2_with fail
    refine HLE.out.mono ?_
    rintro e V3 ⟨rfl, hb3⟩
    have HP3 := Lib.hid (HP9.out.call hb3)
    clear hb3 HLE
    go_wp2_with fail
    refine (peek_no w1.heap.size v2 ob2 V3 (by have := HP3.out.fr.hm; rwa [HXN2.out] at this)).mono ?_
    rintro e V4 ⟨rfl, hb4⟩
    have HP4 := Lib.hid ((HP3.out.call hb4).call ((Below.refl _ V4).alloc (Nat.le_refl _) (.cells #[.int .i64 0, .int .i64 0, .int .i64 0] 30)))
    clear hb4
    go_upto_region 37 with fail
    go_quiet ((go_at_call 12; exact quiet_left (HLN.out _ (HP4.out.fr.hm.call (below_drewN (Below.refl _ _) _)))))
    go_wp2
    go_roundw
    case rel => exact ⟨i + 1, by omega, by omega, by go_num, Lib.hid ⟨_, _, _, _, _, HP4.out.call (below_drewN (Below.refl _ _) _), HQ9.out⟩⟩
    case measure => simp [intOf]; omega
  · obtain ⟨k1, k2, k3⟩ := lstI_spec hm0
    obtain ⟨k, hk⟩ : ∃ k, lstI m2 = k := ⟨_, rfl⟩
    obtain ⟨_, hroot⟩ := HQ9.out.pop hm0
    rw [hk] at k1 k2 hroot
    have hle := least_any _ om2 m2 W HP9.out.sl (by omega)
    rw [k2] at hle
    have HLE := Lib.hid hle
    obtain ⟨z, hz⟩ : ∃ z, gt m2 k = z := ⟨_, rfl⟩
    rw [hz] at hroot
    have HRT := Lib.hid hroot
    have HZ := Lib.hid hz
    clear hle k2 k3 hk hroot hz
    go_wp2_with fail
    refine HLE.out.mono ?_
    rintro e V3 ⟨rfl, hb3⟩
    have HP3 := Lib.hid (HP9.out.call hb3)
    clear hb3 HLE
    have hpo := peek_yes w1.heap.size v2 ob2 xs2 V3 HP3.out.fr.hm (by rw [HXL.out]; exact hm0)
    rw [HRT.out] at hpo
    have HPO := Lib.hid hpo
    clear hpo
    go_wp2_with fail
    refine HPO.out.mono ?_
    rintro e V4 ⟨rfl, hb4⟩
    have hp5 := (HP3.out.call hb4).call ((Below.refl _ V4).alloc (Nat.le_refl _) (.cells #[.int .i64 z.t, .int .i64 z.q, .int .i64 z.a] 30))
    have rb := Row.made V4 30 #[.int .i64 z.t, .int .i64 z.q, .int .i64 z.a]
    have q0 := (rb.cell 0).trans (show _ = some (Value.int .i64 z.t) from rfl)
    have q1 := (rb.cell 1).trans (show _ = some (Value.int .i64 z.q) from rfl)
    have q2 := (rb.cell 2).trans (show _ = some (Value.int .i64 z.a) from rfl)
    obtain ⟨gm, omm, cm, em, _, hn1, hn2, hcl⟩ := hp5.sl.at hm0
    injection em with e1 e2 e3
    subst e1 e3
    obtain ⟨y0, y1, y2⟩ := hcl k k1
    rw [HZ.out] at y0 y1 y2
    have HP5 := Lib.hid hp5
    have hk0 : decide ((0 : Int) ≤ (k : Int)) = true := by simp
    have hki : (k : Int) < (m2.length : Int) := by omega
    clear hp5 hb4 rb hcl e2
    go_upto_region 37 with fail
    go_quiet ((go_at_call 12; exact quiet_left (HLN.out _ (HP5.out.fr.hm.call (below_drewN (Below.refl _ _) _)))))
    go_wp2
    go_roundw
    case rel => exact ⟨i + 1, by omega, by omega, by go_num, Lib.hid ⟨_, _, _, _, _, HP5.out.call (below_drewN (Below.refl _ _) _), HQ9.out⟩⟩
    case measure => simp [intOf]; omega
end Go.Proofs.Ytickliklghecgaa.Hp
