/- The law HeapPlays: a leaf. -/
import Derived.Test.YtickliklghecgaaHpX
import Derived.Deep.RegionHeld3
import Derived.Deep.DeepCutAuto
import Derived.Deep.CutBlock
import Derived.BigQuiet
namespace Go.Proofs.Ytickliklghecgaa.Hp
open Go.RowKit Go.Proofs.Ytickliklghecgaa Go.Proofs.Ytickliklghecgaa.Mut
set_option linter.unusedVariables false
set_option maxRecDepth 100000
set_option maxHeartbeats 20000000 in
theorem part1_g4 (ga oa n c : Nat) (f g h : Nat → Int) (ln : n ≤ c) (lc : c ≤ 9223372036854775807) (w : World) (HL : Hid (∀ k, k < n → ga < w.heap.size ∧ w.cell? ⟨ga, oa + k * 3, none⟩ = some (.int .i64 (f k)) ∧ w.cell? ⟨ga, oa + k * 3 + 1, none⟩ = some (.int .i64 (g k)) ∧ w.cell? ⟨ga, oa + k * 3 + 2, none⟩ = some (.int .i64 (h k)))) : (part1 ga oa n c f g h ln lc w HL).G4 := by
  delta part1
  intro g_last
  unhygienic intros
  rcases Nat.eq_zero_or_pos m.length with hm0 | hm0
  · have hmn : m = [] := List.eq_nil_of_length_eq_zero hm0
    have hxn : xs = [] := by have := HQ.out.prm; rw [hmn] at this; exact List.Perm.eq_nil this
    have hle := least_any _ om m V2 HP2.out.sl (by omega)
    have elk : lk m m.length = -1 := by rw [hm0]; rfl
    rw [elk] at hle
    have HLE := Lib.hid hle
    have HXN2 := Lib.hid hxn
    clear hle elk hmn hxn hm0
    go_wp2_with fail
    refine HLE.out.mono ?_
    rintro e V3 ⟨rfl, hb3⟩
    have HP3 := Lib.hid (HP2.out.call hb3)
    clear hb3 HLE
    go_wp2_with fail
    refine (pop_no w1.heap.size v ob V3 (by have := HP3.out.fr.hm; rwa [HXN2.out] at this)).mono ?_
    rintro e V4 ⟨rfl, hb4⟩
    have HP4 := Lib.hid ((HP3.out.call hb4).call ((Below.refl _ V4).alloc (Nat.le_refl _) (.cells #[.int .i64 0, .int .i64 0, .int .i64 0] 30)))
    have rb := Row.made V4 30 #[.int .i64 0, .int .i64 0, .int .i64 0]
    have q0 := (rb.cell 0).trans (show _ = some (Value.int .i64 0) from rfl)
    have q1 := (rb.cell 1).trans (show _ = some (Value.int .i64 0) from rfl)
    have q2 := (rb.cell 2).trans (show _ = some (Value.int .i64 0) from rfl)
    clear hb4 rb x0 x1 x2 d0
    go_upto_region 19 with fail
    go_quiet (fail)
    go_wp2
    go_meet
    exact Lib.hid ⟨_, _, _, _, _, HP4.out.call (below_drewN (Below.refl _ _) _), HQ.out.more (Nat.le_succ _)⟩
  · obtain ⟨k1, k2, k3⟩ := lstI_spec hm0
    obtain ⟨k, hk⟩ : ∃ k, lstI m = k := ⟨_, rfl⟩
    obtain ⟨hq2, hroot⟩ := HQ.out.pop hm0
    rw [hk] at k1 k2 hroot hq2
    have hle := least_any _ om m V2 HP2.out.sl (by have := HQ.out.len; omega)
    rw [k2] at hle
    have HLE := Lib.hid hle
    have HQ2 := Lib.hid hq2
    obtain ⟨z, hz⟩ : ∃ z, gt m k = z := ⟨_, rfl⟩
    rw [hz] at hroot
    have HRT := Lib.hid hroot
    have HZ := Lib.hid hz
    clear hle k2 k3 hk hq2 hroot hz
    go_wp2_with fail
    refine HLE.out.mono ?_
    rintro e V3 ⟨rfl, hb3⟩
    have HP3 := Lib.hid (HP2.out.call hb3)
    clear hb3 HLE
    have hpo := pop_yes w1.heap.size v ob xs V3 HP3.out.fr.hm (by have := HQ.out.prm.length_eq; omega) (by have := HQ.out.prm.length_eq; have := HQ.out.len; omega)
    rw [HRT.out] at hpo
    have HPO := Lib.hid hpo
    clear hpo
    go_wp2_with fail
    refine HPO.out.mono ?_
    rintro e V4 ⟨rfl, v4, hdz⟩
    have hp5 := (HP3.out.heap hdz.hm hdz.tr (.inl rfl)).call ((Below.refl _ V4).alloc (Nat.le_refl _) (.cells #[.int .i64 z.t, .int .i64 z.q, .int .i64 z.a] 30))
    have rb := Row.made V4 30 #[.int .i64 z.t, .int .i64 z.q, .int .i64 z.a]
    have q0 := (rb.cell 0).trans (show _ = some (Value.int .i64 z.t) from rfl)
    have q1 := (rb.cell 1).trans (show _ = some (Value.int .i64 z.q) from rfl)
    have q2 := (rb.cell 2).trans (show _ = some (Value.int .i64 z.a) from rfl)
    obtain ⟨gm, omm, cm, em, _, hn1, hn2, hcl⟩ := hp5.sl.at hm0
    injection em with e1 e2 e3
    subst e1 e3
    obtain ⟨y0, y1, y2⟩ := hcl k k1
    rw [HZ.out] at y0 y1 y2
    have HP5 := Lib.hid hp5
    have hk0 : decide ((0 : Int) ≤ (k : Int)) = true := by simp
    have hki : (k : Int) < (m.length : Int) := by omega
    clear hp5 hdz rb hcl e2 x0 x1 x2 d0
    go_upto_region 19 with fail
    go_quiet (fail)
    go_wp2_with fail
    refine (without_any _ om m k _ (HP5.out.call (below_drewN (Below.refl _ _) _)).sl k1 (by have := HQ.out.len; omega)).mono ?_
    rintro e V6 ⟨v6, o6, rfl, hm6⟩
    have HP6 := Lib.hid ((HP5.out.call (below_drewN (Below.refl _ _) _)).list hm6)
    obtain ⟨A6, c6, rfl, _⟩ := hm6.sl.form
    clear hm6
    go_wp2
    go_meet
    exact Lib.hid ⟨_, _, _, _, _, HP6.out, HQ2.out.more (Nat.le_succ _)⟩
end Go.Proofs.Ytickliklghecgaa.Hp
