/- Where a match may end. -/
import Derived.Test.YtjciilnbcmaikaaNfF
namespace Go.Proofs.Ytjciilnbcmaikaa.Nf
open Go.RowKit Go.Proofs.Ytjciilnbcmaikaa Go.Proofs.Ytjciilnbcmaikaa.Pa Go.Proofs.Ytjciilnbcmaikaa.Pc
set_option linter.unusedVariables false
set_option maxRecDepth 100000

theorem enough_is (nb g o n c sg so sc : Nat) (win cap : Int) (E : Nat → ElV) (L : List (Int × Int)) (w : World) (h : NR w nb g o n c win cap E sg so sc L) (e : Nat) (he : e < n) (ei : Int) (hei : (e : Int) = ei) (x : Int) (r : Bool) (hr : decide ((E e).mn ≤ x) = r) : Calls Try.prog 106 #[.pointer (some ⟨nb, 0, none⟩), .agg #[.int .i64 ei, .int .i64 x]] w fun e w' => e = .returned (.bool r) ∧ Below w.heap.size w w' := by
  subst hei
  exact enough_any nb g o n c sg so sc win cap E L w h e he x r hr
set_option maxHeartbeats 8000000 in
theorem ends_yes (nb g o n c sg so sc : Nat) (win cap : Int) (E : Nat → ElV) (L : List (Int × Int)) (w : World) (h : NR w nb g o n c win cap E sg so sc L) (hn : n ≤ 100) (k e : Nat) (ei x : Int) (hei : (e : Int) = ei) (hk : L[k]? = some (ei, x)) (he : e < n) (hx : 0 < x) (hr : decide ((E e).mn ≤ x) = true) (hl : lst (negs E) n = ei) :
    Calls Try.prog 56 #[.pointer (some ⟨nb, 0, none⟩), .int .i64 k] w fun e w' => e = .returned (.bool true) ∧ Below w.heap.size w w' := by
  have H := Lib.hid h
  have HK := Lib.hid hk
  have HR := Lib.hid hr
  have HE := Lib.hid hei
  have HL := Lib.hid hl
  clear h hk hr hl hei
  go_enter Try.func56, Try.ntmps56
  go_wp2_with fail
  refine (at_yes nb g o n c sg so sc win cap E _ _ H.out k (ei, x) HK.out).mono ?_
  rintro e1 w1 ⟨rfl, hb⟩
  have hb1 := hb.alloc hb.size (.cells #[.int .i64 ei, .int .i64 x] 90)
  have H1 := Lib.hid (H.out.call hb1)
  have HB1 := Lib.hid hb1
  have HR1 := Lib.hid (Row.made w1 90 #[.int .i64 ei, .int .i64 x])
  have e0 : w1.cell? ⟨nb, 0, none⟩ = some (.slice (some ⟨g, o, none⟩) n c) := (H.out.call hb).row.cell 0
  have e1 : w1.cell? ⟨nb, 1, none⟩ = some (.int .i64 win) := (H.out.call hb).row.cell 1
  have e2 : w1.cell? ⟨nb, 2, none⟩ = some (.int .i64 cap) := (H.out.call hb).row.cell 2
  have el := (H.out.call hb).row.lt
  clear hb hb1
  go_upto_region 2 with fail
  go_region_law (first
    | (go_simp; go_at_call 30; refine (last_is g o n c win cap E _ (by exact H1.out.le.drewN 1) (by omega) ei HL.out).mono ?_; rintro e4 w4 ⟨rfl, hb4⟩; have HB4 := Lib.hid hb4; have f0 : w4.cell? ⟨w1.heap.size, 0, none⟩ = some (.int .i64 ei) := ((Row.drewN HR1.out 1).below (by exact hb4) (by simp)).cell 0; have f1 : w4.cell? ⟨w1.heap.size, 1, none⟩ = some (.int .i64 x) := ((Row.drewN HR1.out 1).below (by exact hb4) (by simp)).cell 1; have fl : w1.heap.size < w4.heap.size := ((Row.drewN HR1.out 1).below (by exact hb4) (by simp)).lt; clear hb4)
    | (go_simp; go_at_call 106; refine (enough_is nb g o n c sg so sc win cap E _ _ (by exact (H1.out.drewN 1).call HB4.out) e he ei HE.out x true HR.out).mono ?_; rintro e5 w5 ⟨rfl, hb5⟩; have HB5 := Lib.hid hb5; clear hb5))
  all_goals
    go_wp2
    go_ret
    exact ⟨rfl, ((below_drewN HB1.out 1).trans (HB4.out.mono (by exact HB1.out.size))).trans (HB5.out.mono (Nat.le_trans HB1.out.size (by exact HB4.out.size)))⟩
set_option maxHeartbeats 8000000 in
theorem ends_no (nb g o n c sg so sc : Nat) (win cap : Int) (E : Nat → ElV) (L : List (Int × Int)) (w : World) (h : NR w nb g o n c win cap E sg so sc L) (hn : n ≤ 100) (k : Nat) (hk : L[k]? = some (0, 2)) (hl : lst (negs E) n = 1) :
    Calls Try.prog 56 #[.pointer (some ⟨nb, 0, none⟩), .int .i64 k] w fun e w' => e = .returned (.bool false) ∧ Below w.heap.size w w' := by
  have H := Lib.hid h
  have HK := Lib.hid hk
  have HL := Lib.hid hl
  clear h hk hl
  go_enter Try.func56, Try.ntmps56
  go_wp2_with fail
  refine (at_yes nb g o n c sg so sc win cap E _ _ H.out k (0, 2) HK.out).mono ?_
  rintro e1 w1 ⟨rfl, hb⟩
  have hb1 := hb.alloc hb.size (.cells #[.int .i64 0, .int .i64 2] 90)
  have H1 := Lib.hid (H.out.call hb1)
  have HB1 := Lib.hid hb1
  have HR1 := Lib.hid (Row.made w1 90 #[.int .i64 0, .int .i64 2])
  have e0 : w1.cell? ⟨nb, 0, none⟩ = some (.slice (some ⟨g, o, none⟩) n c) := (H.out.call hb).row.cell 0
  have e1 : w1.cell? ⟨nb, 1, none⟩ = some (.int .i64 win) := (H.out.call hb).row.cell 1
  have e2 : w1.cell? ⟨nb, 2, none⟩ = some (.int .i64 cap) := (H.out.call hb).row.cell 2
  have el := (H.out.call hb).row.lt
  clear hb hb1
  go_upto_region 2 with fail
  first | go_region_law (first
    | (go_simp; go_at_call 30; refine (last_is g o n c win cap E _ (by exact H1.out.le.drewN 1) (by omega) 1 HL.out).mono ?_; rintro e4 w4 ⟨rfl, hb4⟩; have HB4 := Lib.hid hb4; have f0 : w4.cell? ⟨w1.heap.size, 0, none⟩ = some (.int .i64 0) := ((Row.drewN HR1.out 1).below (by exact hb4) (by simp)).cell 0; have fl : w1.heap.size < w4.heap.size := ((Row.drewN HR1.out 1).below (by exact hb4) (by simp)).lt; clear hb4)) | fail
  all_goals
    go_wp2
    go_ret
    exact ⟨rfl, (below_drewN HB1.out 1).trans (HB4.out.mono (by exact HB1.out.size))⟩
end Go.Proofs.Ytjciilnbcmaikaa.Nf
