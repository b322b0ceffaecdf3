/- The law HeapPlays: a leaf. -/
import Derived.Test.YtickliklghecgaaHpX
import Derived.Deep.RegionHeld3
import Derived.Deep.DeepCutAuto
import Derived.Deep.CutBlock
import Derived.BigQuiet
namespace Go.Proofs.Ytickliklghecgaa.Hp
open Go.RowKit Go.Proofs.Ytickliklghecgaa Go.Proofs.Ytickliklghecgaa.Mut
set_option linter.unusedVariables false
set_option maxRecDepth 100000
set_option maxHeartbeats 20000000 in
theorem part1_g2 (ga oa n c : Nat) (f g h : Nat → Int) (ln : n ≤ c) (lc : c ≤ 9223372036854775807) (w : World) (HL : Hid (∀ k, k < n → ga < w.heap.size ∧ w.cell? ⟨ga, oa + k * 3, none⟩ = some (.int .i64 (f k)) ∧ w.cell? ⟨ga, oa + k * 3 + 1, none⟩ = some (.int .i64 (g k)) ∧ w.cell? ⟨ga, oa + k * 3 + 2, none⟩ = some (.int .i64 (h k)))) : (part1 ga oa n c f g h ln lc w HL).G2 := by
  delta part1
  intro g_last
  unhygienic intros
  go_wp2_with fail
  refine (push_any w1.heap.size v ob xs x _ HP2.out.fr.hm (by have := HQ.out.prm.length_eq; have := HQ.out.len; omega)).mono ?_
  rintro e V3 ⟨rfl, v3, ob3, hpz⟩
  have hp3 := HP2.out.heap hpz.hm hpz.tr hpz.nb
  have hb3 := HXB.out.turns hpz.tr (fun e => HXN.out e)
  have x0 : V3.cell? ⟨V.heap.size, 0, none⟩ = some (.int .i64 x.t) := (hb3.cell 0).trans rfl
  have x1 : V3.cell? ⟨V.heap.size, 1, none⟩ = some (.int .i64 x.q) := (hb3.cell 1).trans rfl
  have x2 : V3.cell? ⟨V.heap.size, 2, none⟩ = some (.int .i64 x.a) := (hb3.cell 2).trans rfl
  have HP3 := Lib.hid hp3
  clear hp3 hpz hb3
  go_wp2_with (at_builtin; refine wpList_append_seg _ rfl _ _ 24 rfl 30 i0 _ 3 24 Try.underlying24 hi0 hz0 hz1 hz2 rfl (by decide) _ m.length (hcells m) om rfl (HP3.out.sl.alloc _) ⟨V3.heap.size, 0, none⟩ 1 1 x.cells rfl rfl (news_row (Row.made V3 _ _)) (by simp [St.cells, Value.oneCell']) (by decide) (by have := HQ.out.len; unfold maxLen; omega) (by have := HQ.out.len; omega) ?_; intro v5 w5 om5 hs5 ht5 ho5; obtain ⟨A5, cap5, rfl, hn5, hm5⟩ := hs5.form; have HP5 := Lib.hid (Pm.app (HP3.out.call ((Below.refl _ V3).alloc (Nat.le_refl _) (.cells #[.int .i64 x.t, .int .i64 x.q, .int .i64 x.a] 30))) hs5 ht5 ho5); clear hs5 ht5 ho5; go_frame)
  go_meet
  exact Lib.hid ⟨_, _, _, _, _, HP5.out, HQ.out.push x⟩
end Go.Proofs.Ytickliklghecgaa.Hp
