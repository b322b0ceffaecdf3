/- The law HeapPlays. -/
import Derived.Test.YtfgnbdhnoclleaaHpW
import Derived.Test.YtfgnbdhnoclleaaHpY
import Derived.Test.YtfgnbdhnoclleaaLaw
import Derived.Test.YtfgnbdhnoclleaaOpen
import Derived.Deep.RegionHeld3
import Derived.Deep.DeepCutAuto
import Derived.Deep.CutBlock
import Derived.BigQuiet
namespace Go.Proofs.Ytfgnbdhnoclleaa.Hp
open Go.RowKit Go.Proofs.Ytfgnbdhnoclleaa Go.Proofs.Ytfgnbdhnoclleaa.Mut
set_option linter.unusedVariables false
set_option maxRecDepth 100000
set_option maxHeartbeats 20000000 in
noncomputable def part1 (ga oa n c : Nat) (f g h : Nat → Int) (ln : n ≤ c) (lc : c ≤ 9223372036854775807) (w : World) (HL : Hid (∀ k, k < n → ga < w.heap.size ∧ w.cell? ⟨ga, oa + k * 3, none⟩ = some (.int .i64 (f k)) ∧ w.cell? ⟨ga, oa + k * 3 + 1, none⟩ = some (.int .i64 (g k)) ∧ w.cell? ⟨ga, oa + k * 3 + 2, none⟩ = some (.int .i64 (h k)))) :
    Cut7 (Calls Try.prog 3 #[.slice (some ⟨ga, oa, none⟩) n c] w fun e w' => e = .returned (.bool true) ∧ Below w.heap.size w w') := by
  apply Cut7.mk
  case ok =>
    intro g1 g2 g3 g4 g5 g6 g7
    go_enter Try.func3, Try.ntmps3
    go_wp2_with fail
    refine (awake_any _).mono ?_
    rintro e w1 ⟨rfl, hb1⟩
    have H0 : Hid (Gm w ((w1.alloc (.cells #[.slice none 0 0] 26)).alloc (.cells #[] 30)) w1.heap.size 0 (.slice (some ⟨w1.heap.size + 1, 0, none⟩) 0 0)) := Lib.hid
      ⟨_, _, _, _, _, ⟨⟨⟨(Row.made w1 _ _).alloc _, Seg.nil _ _ _⟩, hb1.size, (fun _ e => by cases e), (hb1.alloc hb1.size _).alloc (by have := hb1.size; simp; omega) _⟩, empty_sl _ _, (fun _ e => by cases e)⟩, (fun i h0 hl => by simp at hl), List.Perm.refl _, Nat.le_refl _⟩
    have HB1 := Lib.hid hb1
    obtain ⟨i0, hi0, hz0, hz1, hz2⟩ := info_parts stamp_info
    clear hb1
    go_wp2_with fail
    go_loopw [4, 5] (fun s4 s5 wr => ∃ i : Nat, i ≤ n ∧ i ≤ 60 ∧ s5 = .int .i64 i ∧ Hid (Gm w wr w1.heap.size i s4)) (fun _ s5 _ => 60 - (intOf s5).toNat)
    case atStart => exact ⟨0, by omega, by omega, rfl, H0⟩
    case round =>
      obtain ⟨i, hi, hi60, rfl, hj⟩ := hrel
      obtain ⟨v, ob, xs, om, m, hp, hq⟩ := hj.out
      obtain ⟨V, rfl⟩ : ∃ V, V = wr := ⟨_, rfl⟩
      have HP := Lib.hid hp
      have HQ := Lib.hid hq
      clear hj H0
      by_cases hlt : i < n ∧ i < 60
      · obtain ⟨hin, hi6⟩ := hlt
        obtain ⟨hga, hc0, hc1, hc2⟩ := HL.out i hin
        have a0 : V.cell? ⟨ga, oa + i * 3, none⟩ = some (.int .i64 (f i)) := (hp.fr.be.cell (p := ⟨ga, oa + i * 3, none⟩) hga).trans hc0
        have a1 : V.cell? ⟨ga, oa + i * 3 + 1, none⟩ = some (.int .i64 (g i)) := (hp.fr.be.cell (p := ⟨ga, oa + i * 3 + 1, none⟩) hga).trans hc1
        have a2 : V.cell? ⟨ga, oa + i * 3 + 2, none⟩ = some (.int .i64 (h i)) := (hp.fr.be.cell (p := ⟨ga, oa + i * 3 + 2, none⟩) hga).trans hc2
        have e60 : decide ((i : Int) < 60) = true := by simp; omega
        have hii : (i : Int) < (n : Int) := by omega
        obtain ⟨A4, c4, rfl, hn4, hm4⟩ := hp.sl.form
        have hsv : w.heap.size ≤ V.heap.size := hp.fr.be.size
        have b1 : (V.alloc (.cells #[.int .i64 0, .int .i64 0, .int .i64 0] 30)).cell? ⟨ga, oa + i * 3 + 1, none⟩ = some (.int .i64 (g i)) := Lib.cell?_alloc_some _ a1
        have b2 : (V.alloc (.cells #[.int .i64 0, .int .i64 0, .int .i64 0] 30)).cell? ⟨ga, oa + i * 3 + 2, none⟩ = some (.int .i64 (h i)) := Lib.cell?_alloc_some _ a2
        clear hp hq hc0 hc1 hc2
        go_upto_region 8 with fail
        go_cut [6] (fun s6 wx => s6 = .pointer (some ⟨V.heap.size, 0, none⟩) ∧ ∃ x : St, Hid (Row wx V.heap.size 30 #[.int .i64 x.t, .int .i64 x.q, .int .i64 x.a]) ∧ Hid (Below V.heap.size V wx))
        case first =>
          go_region
          all_goals
            go_wp2
            go_meet
            exact ⟨rfl, ⟨bits .and .i64 (g i) 7, bits .and .i64 (h i) 3, i⟩, Lib.hid (Row.made V _ _), Lib.hid (below_drewN ((Below.refl _ V).alloc (Nat.le_refl _) _) 1)⟩
        case rest =>
          obtain ⟨rfl, x, HXB, HBX⟩ := hcut
          obtain ⟨V2, rfl⟩ : ∃ V2, V2 = wc := ⟨_, rfl⟩
          have HP2 := Lib.hid (HP.out.call HBX.out)
          have d0 : V2.cell? ⟨ga, oa + i * 3, none⟩ = some (.int .i64 (f i)) := (HBX.out.cell (p := ⟨ga, oa + i * 3, none⟩) (show ga < V.heap.size by omega)).trans a0
          clear a0 a1 a2 b1 b2
          obtain ⟨y, hy, hy0, hy8⟩ : ∃ y : Int, bits .and .i64 (f i) 7 = y ∧ 0 ≤ y ∧ y < 8 := ⟨_, rfl, by rw [and7]; omega, by rw [and7]; omega⟩
          have HY := Lib.hid hy
          have x0 : V2.cell? ⟨V.heap.size, 0, none⟩ = some (.int .i64 x.t) := (HXB.out.cell 0).trans rfl
          have x1 : V2.cell? ⟨V.heap.size, 1, none⟩ = some (.int .i64 x.q) := (HXB.out.cell 1).trans rfl
          have x2 : V2.cell? ⟨V.heap.size, 2, none⟩ = some (.int .i64 x.a) := (HXB.out.cell 2).trans rfl
          have HXN : Hid (¬ (V.heap.size = w1.heap.size ∨ ob = some V.heap.size)) := Lib.hid (by
            rintro (e | e)
            · have := HP.out.fr.hm.row.lt; omega
            · have := HP.out.fr.hm.seg.lt _ e; omega)
          clear hy
          go_upto_block 2 with fail
          rw [HY.out]
          go_cut [4] (fun s4 wx => Hid (Gm w wx w1.heap.size (i + 1) s4))
          case first =>
            rcases (show y = 0 ∨ y = 1 ∨ y = 2 ∨ y = 3 ∨ y = 4 ∨ y = 5 ∨ y = 6 ∨ y = 7 from by omega) with rfl | rfl | rfl | rfl | rfl | rfl | rfl | rfl
            · revert_behind g7
              exact g1.out
            · revert_behind g7
              exact g2.out
            · revert_behind g7
              exact g4.out
            · revert_behind g7
              exact g5.out
            · go_wp2
              go_meet
              exact Lib.hid ⟨_, _, _, _, _, HP2.out, HQ.out.more (Nat.le_succ _)⟩
            · revert_behind g7
              exact g3.out
            · go_wp2
              go_meet
              exact Lib.hid ⟨_, _, _, _, _, HP2.out, HQ.out.more (Nat.le_succ _)⟩
            · go_wp2
              go_meet
              exact Lib.hid ⟨_, _, _, _, _, HP2.out, HQ.out.more (Nat.le_succ _)⟩
          case rest =>
            revert_behind g7
            exact g6.out
      · revert_behind g7
        exact g7.out
end Go.Proofs.Ytfgnbdhnoclleaa.Hp
