/- The walk of the law HashSpread. -/
import Derived.Test.YtmkofjdmjilpiaaHashB
import Derived.Deep.DeepCutAuto
namespace Go.Proofs.Ytmkofjdmjilpiaa.Hash
open Go.RowKit Go.Proofs.Ytmkofjdmjilpiaa
set_option linter.unusedVariables false

set_option maxRecDepth 100000 in
set_option maxHeartbeats 2000000 in
theorem spread_law (A : Option Addr) (n c : Nat) (f : Nat → ByteArray) (ln : n ≤ c) (lc : c ≤ 9223372036854775807) (lb : ∀ k, (f k).size ≤ 9223372036854775807) {w : World} (lies : Lies w w.heap.size A n (fun k => .string (f k))) (q : Int) (hq : (Lit.int .i64 q).wf = true) :
    Calls Try.prog 4 #[.slice A n c, .int .i64 q] w fun e w' => e = .returned (.bool true) ∧ Below w.heap.size w w' := by
  clear hq
  have HL := Lib.hid lies
  have HLB := Lib.hid lb
  clear lies lb
  go_enter Try.func4, Try.ntmps4
  go_upto_region 1 with fail
  go_cut [5] (fun s5 wx => ∃ (A' : Option Addr) (m c' : Nat), s5 = .slice A' m c' ∧ m ≤ 30 ∧ Hid (Keys w w.heap.size A' m f) ∧ w = wx)
  case first =>
    rcases (show n ≤ 30 ∨ 30 < n from by omega) with h | h
    all_goals
      go_wp2
      go_meet
    · exact ⟨A, n, c, rfl, by omega, ⟨HL.out, fun k _ => HLB.out k⟩, rfl⟩
    · exact ⟨A, 30, c, rfl, by omega, ⟨fun k hk => HL.out k (by omega), fun k _ => HLB.out k⟩, rfl⟩
  case rest =>
    obtain ⟨A', m, c', rfl, hm, hK, rfl⟩ := hcut
    clear ln lc HL HLB
    go_upto_region 2 with fail
    go_cut [6] (fun s6 wx => s6 = .int .i64 (partsV q) ∧ w = wx)
    case first =>
      rcases (show (q < 1 ∧ (partsV q : Int) = 1) ∨ (1 ≤ q ∧ q ≤ 64 ∧ (partsV q : Int) = q) ∨ (64 < q ∧ (partsV q : Int) = 64) from by unfold partsV; omega) with ⟨g, hv⟩ | ⟨g, g1, hv⟩ | ⟨g, hv⟩
      all_goals
        have HV := Lib.hid hv
        clear hv
        go_wp2
        go_meet
        exact ⟨by rw [HV.out], rfl⟩
    case rest =>
      obtain ⟨rfl, rfl⟩ := hcut
      obtain ⟨p0, p1⟩ := partsV_pos q
      have hmk := fun wx => run_make_row' (P := Try.prog) 28 3 (.int .i64 0) 8 Try.underlying28 int_info rfl .i64 .i64 (partsV q) (by omega) (by omega) wx
      go_wp2
      go_loopw [8] (fun i wr => ∃ k : Nat, k ≤ m ∧ i = .int .i64 k ∧ Hid (Tab wr w.heap.size 3 (partsV q) (cntV f (partsV q) k)) ∧ Hid (Below w.heap.size w wr)) (fun i _ => m - (intOf i).toNat)
      case atStart => exact ⟨0, by omega, rfl, Tab.made _ _ _ _, (Below.refl _ w).alloc (Nat.le_refl _) _⟩
      case round =>
        obtain ⟨k, hk, rfl, ht, hb⟩ := hrel
        by_cases hlt : k < m
        · obtain ⟨g, o, rfl, hg, hc⟩ := hK.out.1 k hlt
          have hck : wr.cell? ⟨g, o + k, none⟩ = some (.string (f k)) := (hb.out.cell (p := ⟨g, o + k, none⟩) hg).trans hc
          have hsz := hK.out.2 k hlt
          have hp := partK_lt (f k).data.toList (partsV q) p0
          have hpi := Lib.hid (partK_int (f k).data.toList (partsV q) p0)
          obtain ⟨r0, r1⟩ := fnv_range (f k).data.toList
          have hcell := ht.out.cell hp
          have hfr := ht.out.free (partK (f k).data.toList (partsV q))
          have hle := cnt_le f (partsV q) (partK (f k).data.toList (partsV q)) k
          unfold cntV at hcell
          clear hc
          go_wp2_with fail
          refine (sum_any _ _ hsz).mono ?_
          rintro e w' ⟨rfl, rfl⟩
          have hpe := hpi.out
          go_wp2
          go_roundw
          case rel => exact ⟨k + 1, by omega, by go_num, tab_step ht.out rfl, hb.out.setCell (by simp) _⟩
          case measure => simp [intOf]; omega
        · obtain rfl : k = m := by omega
          have hz : w.heap.size < wr.heap.size := ht.out.lt
          go_wp2_with fail
          refine (spread_any _ _ _ f q _ wr ⟨hK.out.1.below hb.out, hK.out.2⟩ (by omega) (by omega)).mono ?_
          rintro e w1 ⟨rfl, ht1, hb1⟩
          have HT := Lib.hid (ht.out.below hb1 hz)
          have HT1 := Lib.hid ht1
          have HB1 := Lib.hid (hb.out.trans (hb1.mono (by omega)))
          clear ht1 hb1
          go_wp2
          go_loopw [10] (fun i wx => ∃ j : Nat, j ≤ partsV q ∧ i = .int .i64 j ∧ Hid (Tab wx w.heap.size 3 (partsV q) (cntV f (partsV q) k)) ∧ Hid (Tab wx wr.heap.size 3 (partsV q) (cntV f (partsV q) k)) ∧ Hid (Below w.heap.size w wx)) (fun i _ => partsV q - (intOf i).toNat)
          case atStart => exact ⟨0, by omega, rfl, HT, HT1, HB1⟩
          case round =>
            clear HT HT1 HB1
            rename_i wx
            obtain ⟨j, hj, rfl, HT, HT1, HB1⟩ := hrel
            by_cases hjl : j < partsV q
            · have c1 := HT.out.cell hjl
              have c2 := HT1.out.cell hjl
              unfold cntV at c1 c2
              go_wp2
              go_quiet (fail)
              go_wp2
              go_roundw
              case rel => exact ⟨j + 1, by omega, by go_num, HT.out.drewN _, HT1.out.drewN _, below_drewN HB1.out _⟩
              case measure => simp [intOf]; omega
            · go_wp2_with fail
              refine (awake_any _).mono ?_
              rintro e w2 ⟨rfl, hb2⟩
              have HB2 := Lib.hid (HB1.out.trans (hb2.mono HB1.out.size))
              go_wp2
              go_ret
              exact ⟨rfl, HB2.out⟩
end Go.Proofs.Ytmkofjdmjilpiaa.Hash
